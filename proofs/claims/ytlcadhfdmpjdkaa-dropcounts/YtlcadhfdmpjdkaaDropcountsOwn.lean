/- DropCounts, for every three numbers of 8 bits: of so many names (modulo 12, 12 and 6) that stand alone, in pairs, in greater rows just so many are counted, and just the pairs' requests are told a box that is no noughts, in whatever order the program goes through its map: the law returns true, and nothing that was there has turned. No condition. -/
import Derived.Test.YtlcadhfdmpjdkaaY17
import Derived.Test.YtlcadhfdmpjdkaaZ2
import Derived.SliceStrings
import Derived.ChangeMaps5
import Derived.SizedLaws
namespace Go.Proofs.Ytlcadhfdmpjdkaa
open Go.ChangeShapes Go.WideShapes Go.ChangeAt Go.RowKit
set_option maxRecDepth 100000 in
theorem dropcounts_lifted (os : Os) (started : os.Started) (H : Type) (enc : TypeId × Value → H) :
    ReturnsInHanded {} Try.checked os 6 .any (Rows.dropCountsSpec.pre6 enc Try.prog Try.f6 Rows.dropCountsRow.domain false) (Rows.dropCountsSpec.post enc Try.prog Try.f6 false true false false) := by
  refine returnsInHanded_of_change (C := Try.checked) Try.own started (by kernel_rfl) Try.func6
    (ChangeSpec.witness6 (enc := enc) (C := Try.checked) false ⟨#[], #[.int .u8 0, .int .u8 0, .int .u8 0], []⟩ 8 (by kernel_rfl) (by kernel_rfl) (by kernel_rfl) (by kernel_rfl)) ?_
  intro W base args ds gs before hval0 hW hcnd _
  have hval : ∀ (j : Nat) t v, Try.f6.params[j]? = some t → args[j]? = some v → Value.okWide Try.prog W .any base t v := hval0
  have hW' := hW
  obtain ⟨p, q, hA0, hV, rfl, hfz, hnd⟩ := hW
  have hA : DataW.TrodAll enc Try.prog W 0 (fun _ => true) true Try.f6.params.toList args.toList ds p := hA0
  rw [Try.params6] at hA hval
  obtain ⟨v0, v1, v2, d0, d1, d2, p0, p1, p2, rfl, rfl, rfl, h0_, h1_, h2_⟩ := trodAll_three hA
  obtain ⟨rfl, rfl⟩ := trodVars_none hV
  obtain ⟨za, rfl, _, _, wa⟩ := open_int Try.underlying5 (hval 0 5 v0 rfl rfl) h0_
  have ba := bounds_u8 wa
  obtain ⟨a, rfl⟩ := Int.eq_ofNat_of_zero_le ba.1
  have ha : a < 256 := by have := ba.2; omega
  obtain ⟨zb, rfl, _, _, wb⟩ := open_int Try.underlying5 (hval 1 5 v1 rfl rfl) h1_
  have bb := bounds_u8 wb
  obtain ⟨b, rfl⟩ := Int.eq_ofNat_of_zero_le bb.1
  have hb_ : b < 256 := by have := bb.2; omega
  obtain ⟨zd9, rfl, _, _, wd9⟩ := open_int Try.underlying5 (hval 2 5 v2 rfl rfl) h2_
  have bd9 := bounds_u8 wd9
  obtain ⟨d9, rfl⟩ := Int.eq_ofNat_of_zero_le bd9.1
  have hd9 : d9 < 256 := by have := bd9.2; omega
  refine (counts_O [] trivial a ha b hb_ d9 hd9 W (fun i y hy => by simp at hy)).mono fun e W' ⟨he, hb⟩ => ?_
  subst he
  exact ⟨_, rfl, post_true Try.laidOut (by rw [Try.params6]; decide +kernel) rfl hW' rfl rfl rfl rfl Try.underlying4 hb⟩
theorem dropCounts_holds : Rows.DropCountsSaid :=
  OpenClaim.holds_of_wide 6 Try.f6 rfl rfl rfl rfl rfl rfl rfl ⟨rfl, rfl, rfl, rfl, rfl⟩ rfl rfl rfl rfl rfl (by kernel_rfl) Try.func6 (by kernel_rfl)
    (of_decide_eq_true (by kernel_rfl)) (by unfold Func.isWrapper; first | (rw [if_pos (by decide +kernel)]; kernel_rfl) | (rw [if_neg (by decide +kernel)]; exact ⟨rfl, rfl⟩))
    (fun os started H enc _ => dropcounts_lifted os started H enc)
#print axioms dropCounts_holds
end Go.Proofs.Ytlcadhfdmpjdkaa
