/- BookTells, for both games, every tape of at most 500 bytes and every row of at most 25 calls that are short: what is shared, keys, names, boxes, what opens and how many forgeries were met is what the document says, call behind call: the law returns true, and nothing that was there has turned. No condition. -/
import Derived.Test.YtniplfjnpjihoaaZ8
import Derived.Test.YtniplfjnpjihoaaZ3
import Derived.Test.YtniplfjnpjihoaaZ2
import Derived.SliceStrings
import Derived.ChangeMaps5
import Derived.SizedLaws
namespace Go.Proofs.Ytniplfjnpjihoaa
open Go.ChangeShapes Go.WideShapes Go.ChangeAt Go.RowKit
set_option maxRecDepth 100000 in
theorem booktells_lifted (os : Os) (started : os.Started) (H : Type) (enc : TypeId × Value → H) :
    ReturnsInHanded {} Try.checked os 3 .any (Rows.bookTellsSpec.pre6 enc Try.prog Try.f3 Rows.bookTellsRow.domain false) (Rows.bookTellsSpec.post enc Try.prog Try.f3 false true false false) := by
  refine returnsInHanded_of_change (C := Try.checked) Try.own started (by kernel_rfl) Try.func3
    (ChangeSpec.witness6 (enc := enc) (C := Try.checked) false ⟨#[], #[.bool false, .string (bs []), .slice none 0 0], []⟩ 8 (by kernel_rfl) (by kernel_rfl) (by kernel_rfl) (by kernel_rfl)) ?_
  intro W base args ds gs before hval0 hW hcnd _
  have hval : ∀ (j : Nat) t v, Try.f3.params[j]? = some t → args[j]? = some v → Value.okWide Try.prog W .any base t v := hval0
  have hW' := hW
  obtain ⟨p, q, hA0, hV, rfl, hfz, hnd⟩ := hW
  have hA : DataW.TrodAll enc Try.prog W 0 (fun _ => true) true Try.f3.params.toList args.toList ds p := hA0
  rw [Try.params3] at hA hval
  obtain ⟨v0, v1, v2, d0, d1, d2, p0, p1, p2, rfl, rfl, rfl, h0_, h1_, h2_⟩ := trodAll_three hA
  obtain ⟨rfl, rfl⟩ := trodVars_none hV
  obtain ⟨g, rfl, _⟩ := open_bool Try.underlying4 (hval 0 4 v0 rfl rfl) h0_
  obtain ⟨sX, rfl, _, _, mX⟩ := Go.ChangeMaps.open_string Try.underlying9 (hval 1 9 v1 rfl rfl) h1_
  obtain ⟨X, hX, rfl⟩ : ∃ X : List Nat, (∀ i, X.getD i 0 < 256) ∧ sX = bs X := ⟨nl sX, nl_lt sX, (bs_nl sX).symm⟩
  obtain ⟨p, n, cp, fK, fA, fR, fW, fN, rfl, hW9, hN9, hR⟩ := acts_param (hval 2 22 v2 rfl rfl) h2_
  obtain ⟨O1, hH1, hD1, hA1, _⟩ := rowX_O (O := []) hR (fun i y hy => by simp at hy) .nil
  refine (tells_O O1 (distinct_of hD1) g X hX p n cp fK fA fR fW fN hW9 hN9 hA1 W hH1).mono fun e W' ⟨he, hb⟩ => ?_
  subst he
  exact ⟨_, rfl, post_true Try.laidOut (by rw [Try.params3]; decide +kernel) rfl hW' rfl rfl rfl rfl Try.underlying4 hb⟩
theorem bookTells_holds : Rows.BookTellsSaid :=
  OpenClaim.holds_of_wide 3 Try.f3 rfl rfl rfl rfl rfl rfl rfl ⟨rfl, rfl, rfl, rfl, rfl⟩ rfl rfl rfl rfl rfl (by kernel_rfl) Try.func3 (by kernel_rfl)
    (of_decide_eq_true (by kernel_rfl)) (by unfold Func.isWrapper; first | (rw [if_pos (by decide +kernel)]; kernel_rfl) | (rw [if_neg (by decide +kernel)]; exact ⟨rfl, rfl⟩))
    (fun os started H enc _ => booktells_lifted os started H enc)
#print axioms bookTells_holds
end Go.Proofs.Ytniplfjnpjihoaa
