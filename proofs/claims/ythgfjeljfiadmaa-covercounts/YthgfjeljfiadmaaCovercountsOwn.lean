/- CoverCounts, for every four bytes and every text: of a table of few numbers (a ratio, a reach and a middle that may be, made of four bytes) and a tape of the text (of at most 2000 bytes): there are as many requests as are told, ones, and twos of one name each; unless names are alike by chance, just so they are counted where they meet, and of any two under one name each is told the other's box. The law returns true, and nothing that was there has turned. No condition. -/
import Derived.Test.YthgfjeljfiadmaaZ6
import Derived.Test.YthgfjeljfiadmaaZ2
import Derived.SliceStrings
import Derived.ChangeMaps5
import Derived.SizedLaws
namespace Go.Proofs.Ythgfjeljfiadmaa
open Go.ChangeShapes Go.WideShapes Go.ChangeAt Go.RowKit
set_option maxRecDepth 100000 in
theorem covercounts_lifted (os : Os) (started : os.Started) (H : Type) (enc : TypeId × Value → H) :
    ReturnsInHanded {} Try.checked os 4 .any (Rows.coverCountsSpec.pre6 enc Try.prog Try.f4 Rows.coverCountsRow.domain false) (Rows.coverCountsSpec.post enc Try.prog Try.f4 false true false false) := by
  refine returnsInHanded_of_change (C := Try.checked) Try.own started (by kernel_rfl) Try.func4
    (ChangeSpec.witness6 (enc := enc) (C := Try.checked) false ⟨#[], #[.agg #[.int .u8 0, .int .u8 0, .int .u8 0, .int .u8 0], .string (bs [])], []⟩ 8 (by kernel_rfl) (by kernel_rfl) (by kernel_rfl) (by kernel_rfl)) ?_
  intro W base args ds gs before hval0 hW hcnd _
  have hval : ∀ (j : Nat) t v, Try.f4.params[j]? = some t → args[j]? = some v → Value.okWide Try.prog W .any base t v := hval0
  have hW' := hW
  obtain ⟨p, q, hA0, hV, rfl, hfz, hnd⟩ := hW
  have hA : DataW.TrodAll enc Try.prog W 0 (fun _ => true) true Try.f4.params.toList args.toList ds p := hA0
  rw [Try.params4] at hA hval
  obtain ⟨v0, v1, d0, d1, p0, p1, rfl, rfl, rfl, h0_, h1_⟩ := trodAll_two hA
  obtain ⟨rfl, rfl⟩ := trodVars_none hV
  obtain ⟨X, hX, rfl⟩ := open_bytes Try.underlying22 Try.underlying5 (by kernel_rfl) (by kernel_rfl) (hval 0 22 v0 rfl rfl) h0_
  obtain ⟨sY, rfl, _, _, mY⟩ := Go.ChangeMaps.open_string Try.underlying9 (hval 1 9 v1 rfl rfl) h1_
  obtain ⟨Y, hY, rfl⟩ : ∃ X : List Nat, (∀ i, X.getD i 0 < 256) ∧ sY = bs X := ⟨nl sY, nl_lt sY, (bs_nl sY).symm⟩
  refine (counts_any [] trivial X hX.1 hX.2 Y hY W (fun i x hx => by simp at hx)).mono fun e W' ⟨he, hb⟩ => ?_
  subst he
  exact ⟨_, rfl, post_true Try.laidOut (by rw [Try.params4]; decide +kernel) rfl hW' rfl rfl rfl rfl Try.underlying4 hb⟩
theorem coverCounts_holds : Rows.CoverCountsSaid :=
  OpenClaim.holds_of_wide 4 Try.f4 rfl rfl rfl rfl rfl rfl rfl ⟨rfl, rfl, rfl, rfl, rfl⟩ rfl rfl rfl rfl rfl (by kernel_rfl) Try.func4 (by kernel_rfl)
    (of_decide_eq_true (by kernel_rfl)) (by unfold Func.isWrapper; first | (rw [if_pos (by decide +kernel)]; kernel_rfl) | (rw [if_neg (by decide +kernel)]; exact ⟨rfl, rfl⟩))
    (fun os started H enc _ => covercounts_lifted os started H enc)
#print axioms coverCounts_holds
end Go.Proofs.Ythgfjeljfiadmaa
