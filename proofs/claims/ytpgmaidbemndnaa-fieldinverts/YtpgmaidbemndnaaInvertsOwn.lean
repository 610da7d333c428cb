/- FieldInverts, for every two keys: a number that is not 0, times its inverse, is 1; the inverse's inverse is it; the inverse of a product is the product of inverses; the inverse of 0 is 0: the law returns true, and nothing that was there has turned; no condition. -/
import Derived.Test.YtpgmaidbemndnaaInverts
import Derived.Test.YtpgmaidbemndnaaLift
namespace Go.Proofs.Ytpgmaidbemndnaa
open Go.ChangeShapes Go.WideShapes Go.ChangeAt Go.RowKit

theorem inverts_any (ka kb : List Nat) (ha : Bytes ka) (hb : Bytes kb) (w : World) :
    Calls Try.prog 6 #[.agg (cs8 ka), .agg (cs8 kb)] w fun e w' => e = .returned (.bool true) ∧ Below w.heap.size w w' := by
  have sz : ∀ ks : List Nat, Bytes ks → (cs8 ks).size = 32 := fun ks h => by simp [cs8, h.1]
  have lt : ∀ n : Nat, n % pN < pN := fun n => Nat.mod_lt _ (by decide)
  exact inverts_raw _ _ _ _ _ _ (lt _) (lt _) (inv_lt _) (inv_lt _) (sz ka ha) (sz kb hb) (fun h => by rw [h]; exact inv_zero) (fun h => inv_mul _ (Nat.pos_of_ne_zero h) (lt _)) (fun h => inv_inv _ (Nat.pos_of_ne_zero h) (lt _)) (fun _ => inv_prod _ _)
    (of_any ka ha) (of_any kb hb) (inv_any _ (Nat.lt_trans (lt _) pN_top)) (inv_any _ (Nat.lt_trans (lt _) pN_top)) w

set_option maxRecDepth 100000 in
theorem inverts_lifted (os : Os) (started : os.Started) (H : Type) (enc : TypeId × Value → H) :
    ReturnsInHanded {} Try.checked os 6 .any (Rows.fieldInvertsSpec.pre6 enc Try.prog Try.f6 Rows.fieldInvertsRow.domain false) (Rows.fieldInvertsSpec.post enc Try.prog Try.f6 false true false false) := by
  refine returnsInHanded_of_change (C := Try.checked) Try.own started (by kernel_rfl) Try.func6
    (ChangeSpec.witness6 (enc := enc) (C := Try.checked) false ⟨#[], #[.agg (cs8 (List.replicate 32 0)), .agg (cs8 (List.replicate 32 0))], []⟩ 8 (by kernel_rfl) (by kernel_rfl) (by kernel_rfl) (by kernel_rfl)) ?_
  intro W base args ds gs before hval0 hW hcnd _
  have hval : ∀ (j : Nat) t v, Try.f6.params[j]? = some t → args[j]? = some v → Value.okWide Try.prog W .any base t v := hval0
  have hW' := hW
  obtain ⟨p, q, hA0, hV, rfl, hfz, hnd⟩ := hW
  have hA : DataW.TrodAll enc Try.prog W 0 (fun _ => true) true Try.f6.params.toList args.toList ds p := hA0
  rw [Try.params6] at hA hval
  obtain ⟨v0, v1, d0, d1, p0, p1, rfl, rfl, rfl, h0, h1⟩ := trodAll_two hA
  obtain ⟨rfl, rfl⟩ := trodVars_none hV
  obtain ⟨ka, ba, rfl⟩ := open_key (hval 0 23 v0 rfl rfl) h0
  obtain ⟨kb, bb, rfl⟩ := open_key (hval 1 23 v1 rfl rfl) h1
  refine (inverts_any ka kb ba bb W).mono fun e W' ⟨he, hb⟩ => ?_
  subst he
  exact ⟨_, rfl, post_true Try.laidOut (by rw [Try.params6]; decide +kernel) rfl hW' rfl rfl rfl rfl Try.underlying4 hb⟩

theorem fieldInverts_holds : Rows.FieldInvertsSaid :=
  OpenClaim.holds_of_wide 6 Try.f6 rfl rfl rfl rfl rfl rfl rfl ⟨rfl, rfl, rfl, rfl, rfl⟩ rfl rfl rfl rfl rfl (by kernel_rfl) Try.func6 (by kernel_rfl)
    (of_decide_eq_true (by kernel_rfl)) (by unfold Func.isWrapper; first | (rw [if_pos (by decide +kernel)]; kernel_rfl) | (rw [if_neg (by decide +kernel)]; exact ⟨rfl, rfl⟩))
    (fun os started H enc _ => inverts_lifted os started H enc)
#print axioms fieldInverts_holds
end Go.Proofs.Ytpgmaidbemndnaa
