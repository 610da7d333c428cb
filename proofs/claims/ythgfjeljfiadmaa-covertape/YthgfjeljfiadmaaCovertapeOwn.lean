/- CoverTape, for every four bytes and every text: of a table of few numbers (a ratio, a reach and a middle that may be, made of four bytes) and a tape of the text (of at most 2000 bytes): each draw takes its bytes, each name and each box theirs, one behind the other; boxes are the tape's own bytes. The law returns true, and nothing that was there has turned. No condition. -/
import Derived.Test.YthgfjeljfiadmaaZ5
import Derived.Test.YthgfjeljfiadmaaZ2
import Derived.SliceStrings
import Derived.ChangeMaps5
import Derived.SizedLaws
namespace Go.Proofs.Ythgfjeljfiadmaa
open Go.ChangeShapes Go.WideShapes Go.ChangeAt Go.RowKit
set_option maxRecDepth 100000 in
theorem covertape_lifted (os : Os) (started : os.Started) (H : Type) (enc : TypeId × Value → H) :
    ReturnsInHanded {} Try.checked os 5 .any (Rows.coverTapeSpec.pre6 enc Try.prog Try.f5 Rows.coverTapeRow.domain false) (Rows.coverTapeSpec.post enc Try.prog Try.f5 false true false false) := by
  refine returnsInHanded_of_change (C := Try.checked) Try.own started (by kernel_rfl) Try.func5
    (ChangeSpec.witness6 (enc := enc) (C := Try.checked) false ⟨#[], #[.agg #[.int .u8 0, .int .u8 0, .int .u8 0, .int .u8 0], .string (bs [])], []⟩ 8 (by kernel_rfl) (by kernel_rfl) (by kernel_rfl) (by kernel_rfl)) ?_
  intro W base args ds gs before hval0 hW hcnd _
  have hval : ∀ (j : Nat) t v, Try.f5.params[j]? = some t → args[j]? = some v → Value.okWide Try.prog W .any base t v := hval0
  have hW' := hW
  obtain ⟨p, q, hA0, hV, rfl, hfz, hnd⟩ := hW
  have hA : DataW.TrodAll enc Try.prog W 0 (fun _ => true) true Try.f5.params.toList args.toList ds p := hA0
  rw [Try.params5] at hA hval
  obtain ⟨v0, v1, d0, d1, p0, p1, rfl, rfl, rfl, h0_, h1_⟩ := trodAll_two hA
  obtain ⟨rfl, rfl⟩ := trodVars_none hV
  obtain ⟨X, hX, rfl⟩ := open_bytes Try.underlying22 Try.underlying5 (by kernel_rfl) (by kernel_rfl) (hval 0 22 v0 rfl rfl) h0_
  obtain ⟨sY, rfl, _, _, mY⟩ := Go.ChangeMaps.open_string Try.underlying9 (hval 1 9 v1 rfl rfl) h1_
  obtain ⟨Y, hY, rfl⟩ : ∃ X : List Nat, (∀ i, X.getD i 0 < 256) ∧ sY = bs X := ⟨nl sY, nl_lt sY, (bs_nl sY).symm⟩
  refine (tape_any [] trivial X hX.1 hX.2 Y hY W (fun i x hx => by simp at hx)).mono fun e W' ⟨he, hb⟩ => ?_
  subst he
  exact ⟨_, rfl, post_true Try.laidOut (by rw [Try.params5]; decide +kernel) rfl hW' rfl rfl rfl rfl Try.underlying4 hb⟩
theorem coverTape_holds : Rows.CoverTapeSaid :=
  OpenClaim.holds_of_wide 5 Try.f5 rfl rfl rfl rfl rfl rfl rfl ⟨rfl, rfl, rfl, rfl, rfl⟩ rfl rfl rfl rfl rfl (by kernel_rfl) Try.func5 (by kernel_rfl)
    (of_decide_eq_true (by kernel_rfl)) (by unfold Func.isWrapper; first | (rw [if_pos (by decide +kernel)]; kernel_rfl) | (rw [if_neg (by decide +kernel)]; exact ⟨rfl, rfl⟩))
    (fun os started H enc _ => covertape_lifted os started H enc)
#print axioms coverTape_holds
end Go.Proofs.Ythgfjeljfiadmaa
