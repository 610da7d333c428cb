/- FieldRing, for every three keys: sums and products of the numbers that they are may change places and be taken apart, products are spread over sums, what is taken away comes back: the law returns true, and nothing that was there has turned; no condition. -/
import Derived.Test.YtpgmaidbemndnaaRing
import Derived.Test.YtpgmaidbemndnaaLift
namespace Go.Proofs.Ytpgmaidbemndnaa
open Go.ChangeShapes Go.WideShapes Go.ChangeAt Go.RowKit

theorem mod_assoc_add (x y z n : Nat) : ((x + y) % n + z) % n = (x + (y + z) % n) % n := by
  rw [Nat.mod_add_mod, Nat.add_mod_mod, Nat.add_assoc]
theorem mod_assoc_mul (x y z n : Nat) : (x * y % n) * z % n = x * (y * z % n) % n := by
  rw [Nat.mod_mul_mod, Nat.mul_mod_mod, Nat.mul_assoc]
theorem mod_spread (x y z n : Nat) : x * ((y + z) % n) % n = (x * y % n + x * z % n) % n := by
  rw [Nat.mul_mod_mod, Nat.mod_add_mod, Nat.add_mod_mod, Nat.mul_add]
theorem mod_back (x y n : Nat) (hx : x < n) (hy : y < n) : ((x + (n - y)) % n + y) % n = x := by
  rw [Nat.mod_add_mod, show x + (n - y) + y = x + n by omega, Nat.add_mod_right, Nat.mod_eq_of_lt hx]

theorem ring_any (ka kb kc : List Nat) (ha : Bytes ka) (hb : Bytes kb) (hc : Bytes kc) (w : World) :
    Calls Try.prog 5 #[.agg (cs8 ka), .agg (cs8 kb), .agg (cs8 kc)] w fun e w' => e = .returned (.bool true) ∧ Below w.heap.size w w' := by
  have sz : ∀ ks : List Nat, Bytes ks → (cs8 ks).size = 32 := fun ks h => by simp [cs8, h.1]
  have lt : ∀ n : Nat, n % pN < pN := fun n => Nat.mod_lt _ pN_pos
  exact ring_raw _ _ _ _ _ _ (lt _) (lt _) (lt _) (sz ka ha) (sz kb hb) (sz kc hc) (by rw [Nat.add_comm]) (by rw [Nat.mul_comm]) (mod_assoc_add _ _ _ _) (mod_assoc_mul _ _ _ _) (mod_spread _ _ _ _) (mod_back _ _ _ (lt _) (lt _)) (mod_assoc_add _ _ _ _) (mod_assoc_mul _ _ _ _)
    (of_any ka ha) (of_any kb hb) (of_any kc hc) w

set_option maxRecDepth 100000 in
theorem ring_lifted (os : Os) (started : os.Started) (H : Type) (enc : TypeId × Value → H) :
    ReturnsInHanded {} Try.checked os 5 .any (Rows.fieldRingSpec.pre6 enc Try.prog Try.f5 Rows.fieldRingRow.domain false) (Rows.fieldRingSpec.post enc Try.prog Try.f5 false true false false) := by
  refine returnsInHanded_of_change (C := Try.checked) Try.own started (by kernel_rfl) Try.func5
    (ChangeSpec.witness6 (enc := enc) (C := Try.checked) false ⟨#[], #[.agg (cs8 (List.replicate 32 0)), .agg (cs8 (List.replicate 32 0)), .agg (cs8 (List.replicate 32 0))], []⟩ 8 (by kernel_rfl) (by kernel_rfl) (by kernel_rfl) (by kernel_rfl)) ?_
  intro W base args ds gs before hval0 hW hcnd _
  have hval : ∀ (j : Nat) t v, Try.f5.params[j]? = some t → args[j]? = some v → Value.okWide Try.prog W .any base t v := hval0
  have hW' := hW
  obtain ⟨p, q, hA0, hV, rfl, hfz, hnd⟩ := hW
  have hA : DataW.TrodAll enc Try.prog W 0 (fun _ => true) true Try.f5.params.toList args.toList ds p := hA0
  rw [Try.params5] at hA hval
  obtain ⟨v0, v1, v2, d0, d1, d2, p0, p1, p2, rfl, rfl, rfl, h0, h1, h2⟩ := trodAll_three hA
  obtain ⟨rfl, rfl⟩ := trodVars_none hV
  obtain ⟨ka, ba, rfl⟩ := open_key (hval 0 23 v0 rfl rfl) h0
  obtain ⟨kb, bb, rfl⟩ := open_key (hval 1 23 v1 rfl rfl) h1
  obtain ⟨kc, bc, rfl⟩ := open_key (hval 2 23 v2 rfl rfl) h2
  refine (ring_any ka kb kc ba bb bc W).mono fun e W' ⟨he, hb⟩ => ?_
  subst he
  exact ⟨_, rfl, post_true Try.laidOut (by rw [Try.params5]; decide +kernel) rfl hW' rfl rfl rfl rfl Try.underlying4 hb⟩

theorem fieldRing_holds : Rows.FieldRingSaid :=
  OpenClaim.holds_of_wide 5 Try.f5 rfl rfl rfl rfl rfl rfl rfl ⟨rfl, rfl, rfl, rfl, rfl⟩ rfl rfl rfl rfl rfl (by kernel_rfl) Try.func5 (by kernel_rfl)
    (of_decide_eq_true (by kernel_rfl)) (by unfold Func.isWrapper; first | (rw [if_pos (by decide +kernel)]; kernel_rfl) | (rw [if_neg (by decide +kernel)]; exact ⟨rfl, rfl⟩))
    (fun os started H enc _ => ring_lifted os started H enc)
#print axioms fieldRing_holds
end Go.Proofs.Ytpgmaidbemndnaa
