/- ChachaParts, for every key, count, nonce, text and cut: a text of at most 300 bytes is masked in two parts, cut where a block ends, to what it is masked to whole: the law returns true, and nothing that was there has turned; no condition. -/
import Derived.Test.YtlpoimmpjcldjaaParts
import Derived.Test.YtlpoimmpjcldjaaOpen
namespace Go.Proofs.Ytlpoimmpjcldjaa
open Go.ChangeShapes Go.WideShapes Go.ChangeAt Go.RowKit

set_option maxRecDepth 100000 in
theorem parts_lifted (os : Os) (started : os.Started) (H : Type) (enc : TypeId × Value → H) :
    ReturnsInHanded {} Try.checked os 5 .any (Rows.chachaPartsSpec.pre6 enc Try.prog Try.f5 Rows.chachaPartsRow.domain false) (Rows.chachaPartsSpec.post enc Try.prog Try.f5 false true false false) := by
  refine returnsInHanded_of_change (C := Try.checked) Try.own started (by kernel_rfl) Try.func5
    (ChangeSpec.witness6 (enc := enc) (C := Try.checked) false ⟨#[], #[.agg (cn .u8 (List.replicate 32 0) ++ #[.int .u32 0] ++ cn .u8 (List.replicate 12 0) ++ #[.string (bs []), .int .u8 0])], []⟩ 8 (by kernel_rfl) (by kernel_rfl) (by kernel_rfl) (by kernel_rfl)) ?_
  intro W base args ds gs before hval0 hW hcnd _
  have hval : ∀ (j : Nat) t v, Try.f5.params[j]? = some t → args[j]? = some v → Value.okWide Try.prog W .any base t v := hval0
  have hW' := hW
  obtain ⟨p, q, hA0, hV, rfl, hfz, hnd⟩ := hW
  have hA : DataW.TrodAll enc Try.prog W 0 (fun _ => true) true Try.f5.params.toList args.toList ds p := hA0
  rw [Try.params5] at hA hval
  obtain ⟨v0, d0, rfl, rfl, h0⟩ := trodAll_one hA
  obtain ⟨rfl, rfl⟩ := trodVars_none hV
  obtain ⟨cp, ks, ns, X, c, u, rfl, bk, bc, bn, bX, bu, p1, pc, p2, pt, pu⟩ := open_parts (hval 0 38 v0 rfl rfl) h0
  refine (parts_any cp ks ns X c u bu bk bc bn bX p1 pc p2 pt pu W).mono fun e W' ⟨he, hb⟩ => ?_
  subst he
  exact ⟨_, rfl, post_true Try.laidOut (by rw [Try.params5]; decide +kernel) rfl hW' rfl rfl rfl rfl Try.underlying4 hb⟩

theorem chachaParts_holds : Rows.ChachaPartsSaid :=
  OpenClaim.holds_of_wide 5 Try.f5 rfl rfl rfl rfl rfl rfl rfl ⟨rfl, rfl, rfl, rfl, rfl⟩ rfl rfl rfl rfl rfl (by kernel_rfl) Try.func5 (by kernel_rfl)
    (of_decide_eq_true (by kernel_rfl)) (by unfold Func.isWrapper; first | (rw [if_pos (by decide +kernel)]; kernel_rfl) | (rw [if_neg (by decide +kernel)]; exact ⟨rfl, rfl⟩))
    (fun os started H enc _ => parts_lifted os started H enc)
#print axioms chachaParts_holds
end Go.Proofs.Ytlpoimmpjcldjaa
