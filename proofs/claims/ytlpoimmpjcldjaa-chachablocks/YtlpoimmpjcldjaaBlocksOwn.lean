/- ChachaBlocks, for every key, count, nonce, text and n: noughts are masked to the blocks themselves, and the beginning of a text of at most 300 bytes to the beginning of what it is masked to: the law returns true, and nothing that was there has turned; no condition. -/
import Derived.Test.YtlpoimmpjcldjaaBlocks
import Derived.Test.YtlpoimmpjcldjaaOpen
namespace Go.Proofs.Ytlpoimmpjcldjaa
open Go.ChangeShapes Go.WideShapes Go.ChangeAt Go.RowKit

set_option maxRecDepth 100000 in
theorem blocks_lifted (os : Os) (started : os.Started) (H : Type) (enc : TypeId × Value → H) :
    ReturnsInHanded {} Try.checked os 6 .any (Rows.chachaBlocksSpec.pre6 enc Try.prog Try.f6 Rows.chachaBlocksRow.domain false) (Rows.chachaBlocksSpec.post enc Try.prog Try.f6 false true false false) := by
  refine returnsInHanded_of_change (C := Try.checked) Try.own started (by kernel_rfl) Try.func6
    (ChangeSpec.witness6 (enc := enc) (C := Try.checked) false ⟨#[], #[.agg (cn .u8 (List.replicate 32 0) ++ #[.int .u32 0] ++ cn .u8 (List.replicate 12 0) ++ #[.string (bs []), .int .u8 0])], []⟩ 8 (by kernel_rfl) (by kernel_rfl) (by kernel_rfl) (by kernel_rfl)) ?_
  intro W base args ds gs before hval0 hW hcnd _
  have hval : ∀ (j : Nat) t v, Try.f6.params[j]? = some t → args[j]? = some v → Value.okWide Try.prog W .any base t v := hval0
  have hW' := hW
  obtain ⟨p, q, hA0, hV, rfl, hfz, hnd⟩ := hW
  have hA : DataW.TrodAll enc Try.prog W 0 (fun _ => true) true Try.f6.params.toList args.toList ds p := hA0
  rw [Try.params6] at hA hval
  obtain ⟨v0, d0, rfl, rfl, h0⟩ := trodAll_one hA
  obtain ⟨rfl, rfl⟩ := trodVars_none hV
  obtain ⟨cp, ks, ns, X, c, u, rfl, bk, bc, bn, bX, bu, p1, pc, p2, pt, pu⟩ := open_blocks (hval 0 41 v0 rfl rfl) h0
  refine (blocks_any cp ks ns X c u bu bk bc bn bX p1 pc p2 pt pu W).mono fun e W' ⟨he, hb⟩ => ?_
  subst he
  exact ⟨_, rfl, post_true Try.laidOut (by rw [Try.params6]; decide +kernel) rfl hW' rfl rfl rfl rfl Try.underlying4 hb⟩

theorem chachaBlocks_holds : Rows.ChachaBlocksSaid :=
  OpenClaim.holds_of_wide 6 Try.f6 rfl rfl rfl rfl rfl rfl rfl ⟨rfl, rfl, rfl, rfl, rfl⟩ rfl rfl rfl rfl rfl (by kernel_rfl) Try.func6 (by kernel_rfl)
    (of_decide_eq_true (by kernel_rfl)) (by unfold Func.isWrapper; first | (rw [if_pos (by decide +kernel)]; kernel_rfl) | (rw [if_neg (by decide +kernel)]; exact ⟨rfl, rfl⟩))
    (fun os started H enc _ => blocks_lifted os started H enc)
#print axioms chachaBlocks_holds
end Go.Proofs.Ytlpoimmpjcldjaa
