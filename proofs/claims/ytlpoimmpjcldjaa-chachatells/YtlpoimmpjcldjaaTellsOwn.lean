/- ChachaTells, for every key, count, nonce and text: package chacha answers the block, and of a text of at most 300 bytes the masked one, that the answer of the document says: the law returns true, and nothing that was there has turned; no condition. -/
import Derived.Test.YtlpoimmpjcldjaaTells
import Derived.Test.YtlpoimmpjcldjaaOpen
namespace Go.Proofs.Ytlpoimmpjcldjaa
open Go.ChangeShapes Go.WideShapes Go.ChangeAt Go.RowKit

set_option maxRecDepth 100000 in
theorem tells_lifted (os : Os) (started : os.Started) (H : Type) (enc : TypeId × Value → H) :
    ReturnsInHanded {} Try.checked os 3 .any (Rows.chachaTellsSpec.pre6 enc Try.prog Try.f3 Rows.chachaTellsRow.domain false) (Rows.chachaTellsSpec.post enc Try.prog Try.f3 false true false false) := by
  refine returnsInHanded_of_change (C := Try.checked) Try.own started (by kernel_rfl) Try.func3
    (ChangeSpec.witness6 (enc := enc) (C := Try.checked) false ⟨#[], #[.agg (cn .u8 (List.replicate 32 0) ++ #[.int .u32 0] ++ cn .u8 (List.replicate 12 0) ++ #[.string (bs [])])], []⟩ 8 (by kernel_rfl) (by kernel_rfl) (by kernel_rfl) (by kernel_rfl)) ?_
  intro W base args ds gs before hval0 hW hcnd _
  have hval : ∀ (j : Nat) t v, Try.f3.params[j]? = some t → args[j]? = some v → Value.okWide Try.prog W .any base t v := hval0
  have hW' := hW
  obtain ⟨p, q, hA0, hV, rfl, hfz, hnd⟩ := hW
  have hA : DataW.TrodAll enc Try.prog W 0 (fun _ => true) true Try.f3.params.toList args.toList ds p := hA0
  rw [Try.params3] at hA hval
  obtain ⟨v0, d0, rfl, rfl, h0⟩ := trodAll_one hA
  obtain ⟨rfl, rfl⟩ := trodVars_none hV
  obtain ⟨cp, ks, ns, X, c, rfl, bk, bc, bn, bX, p1, pc, p2, pt⟩ := open_tells (hval 0 28 v0 rfl rfl) h0
  refine (tells_any cp ks ns X c bk bc bn bX p1 pc p2 pt W).mono fun e W' ⟨he, hb⟩ => ?_
  subst he
  exact ⟨_, rfl, post_true Try.laidOut (by rw [Try.params3]; decide +kernel) rfl hW' rfl rfl rfl rfl Try.underlying4 hb⟩

theorem chachaTells_holds : Rows.ChachaTellsSaid :=
  OpenClaim.holds_of_wide 3 Try.f3 rfl rfl rfl rfl rfl rfl rfl ⟨rfl, rfl, rfl, rfl, rfl⟩ rfl rfl rfl rfl rfl (by kernel_rfl) Try.func3 (by kernel_rfl)
    (of_decide_eq_true (by kernel_rfl)) (by unfold Func.isWrapper; first | (rw [if_pos (by decide +kernel)]; kernel_rfl) | (rw [if_neg (by decide +kernel)]; exact ⟨rfl, rfl⟩))
    (fun os started H enc _ => tells_lifted os started H enc)
#print axioms chachaTells_holds
end Go.Proofs.Ytlpoimmpjcldjaa
