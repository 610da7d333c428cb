/- CoverTells, for every four bytes, every text and every whole number: of a table of few numbers (a ratio, a reach and a middle that may be, made of four bytes) and a tape of the text (of at most 2000 bytes): how many covers there are, which, or why none, and how much was taken, are what the document says. The law returns true, and nothing that was there has turned. No condition. -/
import Derived.Test.YthgfjeljfiadmaaZ6
import Derived.Test.YthgfjeljfiadmaaZ2
import Derived.SliceStrings
import Derived.ChangeMaps5
import Derived.SizedLaws
namespace Go.Proofs.Ythgfjeljfiadmaa
open Go.ChangeShapes Go.WideShapes Go.ChangeAt Go.RowKit
set_option maxRecDepth 100000 in
theorem covertells_lifted (os : Os) (started : os.Started) (H : Type) (enc : TypeId × Value → H) :
    ReturnsInHanded {} Try.checked os 3 .any (Rows.coverTellsSpec.pre6 enc Try.prog Try.f3 Rows.coverTellsRow.domain false) (Rows.coverTellsSpec.post enc Try.prog Try.f3 false true false false) := by
  refine returnsInHanded_of_change (C := Try.checked) Try.own started (by kernel_rfl) Try.func3
    (ChangeSpec.witness6 (enc := enc) (C := Try.checked) false ⟨#[], #[.agg #[.int .u8 0, .int .u8 0, .int .u8 0, .int .u8 0], .string (bs []), .int .i64 0], []⟩ 8 (by kernel_rfl) (by kernel_rfl) (by kernel_rfl) (by kernel_rfl)) ?_
  intro W base args ds gs before hval0 hW hcnd _
  have hval : ∀ (j : Nat) t v, Try.f3.params[j]? = some t → args[j]? = some v → Value.okWide Try.prog W .any base t v := hval0
  have hW' := hW
  obtain ⟨p, q, hA0, hV, rfl, hfz, hnd⟩ := hW
  have hA : DataW.TrodAll enc Try.prog W 0 (fun _ => true) true Try.f3.params.toList args.toList ds p := hA0
  rw [Try.params3] at hA hval
  obtain ⟨v0, v1, v2, d0, d1, d2, p0, p1, p2, rfl, rfl, rfl, h0_, h1_, h2_⟩ := trodAll_three hA
  obtain ⟨rfl, rfl⟩ := trodVars_none hV
  obtain ⟨X, hX, rfl⟩ := open_bytes Try.underlying22 Try.underlying5 (by kernel_rfl) (by kernel_rfl) (hval 0 22 v0 rfl rfl) h0_
  obtain ⟨sY, rfl, _, _, mY⟩ := Go.ChangeMaps.open_string Try.underlying9 (hval 1 9 v1 rfl rfl) h1_
  obtain ⟨Y, hY, rfl⟩ : ∃ X : List Nat, (∀ i, X.getD i 0 < 256) ∧ sY = bs X := ⟨nl sY, nl_lt sY, (bs_nl sY).symm⟩
  obtain ⟨z, rfl, _, _, wz⟩ := open_int Try.underlying3 (hval 2 3 v2 rfl rfl) h2_
  refine (tells_any [] trivial X hX.1 hX.2 Y hY z W (fun i x hx => by simp at hx)).mono fun e W' ⟨he, hb⟩ => ?_
  subst he
  exact ⟨_, rfl, post_true Try.laidOut (by rw [Try.params3]; decide +kernel) rfl hW' rfl rfl rfl rfl Try.underlying4 hb⟩
theorem coverTells_holds : Rows.CoverTellsSaid :=
  OpenClaim.holds_of_wide 3 Try.f3 rfl rfl rfl rfl rfl rfl rfl ⟨rfl, rfl, rfl, rfl, rfl⟩ rfl rfl rfl rfl rfl (by kernel_rfl) Try.func3 (by kernel_rfl)
    (of_decide_eq_true (by kernel_rfl)) (by unfold Func.isWrapper; first | (rw [if_pos (by decide +kernel)]; kernel_rfl) | (rw [if_neg (by decide +kernel)]; exact ⟨rfl, rfl⟩))
    (fun os started H enc _ => covertells_lifted os started H enc)
#print axioms coverTells_holds
end Go.Proofs.Ythgfjeljfiadmaa
