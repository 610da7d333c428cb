/- FieldBytes, for every two keys: a number's bytes are that number's; they are below the prime; the highest bit does not count; two numbers are one just if their bytes are: the law returns true, and nothing that was there has turned; no condition. -/
import Derived.Test.YtpgmaidbemndnaaBytes
import Derived.Test.YtpgmaidbemndnaaLift
namespace Go.Proofs.Ytpgmaidbemndnaa
open Go.ChangeShapes Go.WideShapes Go.ChangeAt Go.RowKit

theorem cs8_turn (ks : List Nat) (h : Bytes ks) : (cs8 ks).setIfInBounds 31 (.int .u8 (bits .xor .u8 ((ks.getD 31 0 : Nat) : Int) 128)) = cs8 (turnTop ks) := by
  have e : bits .xor .u8 ((ks.getD 31 0 : Nat) : Int) 128 = ((ks.getD 31 0 ^^^ 128 : Nat) : Int) := u8_xor_nat _ 128 (h.2 31) (by omega)
  rw [e]
  have hl := h.1
  refine Array.ext_getElem? fun j => ?_
  rw [Array.getElem?_setIfInBounds]
  by_cases hj : 31 = j
  · subst hj
    rw [if_pos rfl, if_pos (by simp [cs8, hl]), cs8_get _ _ (by simp [turnTop, hl])]
    simp [turnTop, hl]
  · rw [if_neg hj]
    simp [cs8, turnTop, List.getElem?_set_ne hj]

theorem map_cast_inj {l m : List Nat} (h : (l.map fun (n : Nat) => (n : Int)) = m.map fun (n : Nat) => (n : Int)) : l = m := by
  have := congrArg (List.map Int.toNat) h
  simpa [List.map_map, Function.comp_def] using this

theorem bytes_any (ka kb : List Nat) (ha : Bytes ka) (hb : Bytes kb) (w : World) :
    Calls Try.prog 7 #[.agg (cs8 ka), .agg (cs8 kb)] w fun e w' => e = .returned (.bool true) ∧ Below w.heap.size w w' := by
  have sz : ∀ ks : List Nat, Bytes ks → (cs8 ks).size = 32 := fun ks h => by simp [cs8, h.1]
  have lt : ∀ n : Nat, n % pN < pN := fun n => Nat.mod_lt _ (by decide)
  have hX := lt (numOf ka)
  have hY := lt (numOf kb)
  have k6 := fun w => of_any (keyL (numOf ka % pN)) (keyL_bytes _) w
  rw [numOf_key _ (Nat.lt_trans hX pN_255), Nat.mod_mod] at k6
  have k7 := fun w => of_any (turnTop ka) (turnTop_bytes ha) w
  rw [numOf_turn ha, ← cs8_turn ka ha] at k7
  refine bytes_raw (cs8 ka) (cs8 kb) _ _ (numOf ka % pN) (numOf kb % pN) _ (numOf ka % pN == numOf kb % pN) hX hY (sz ka ha) (sz kb hb) (cs8_one ka) (cs8_get ka 31 (by rw [ha.1]; omega)) rfl rfl rfl ?_
    (of_any ka ha) (of_any kb hb) (key_any _) k6 k7 (key_any _) w
  rw [Bool.eq_iff_iff, beq_iff_eq, beq_iff_eq]
  constructor
  · intro h
    exact keyL_inj (Nat.lt_trans hX pN_255) (Nat.lt_trans hY pN_255) (map_cast_inj h)
  · intro h
    rw [h]

set_option maxRecDepth 100000 in
theorem bytes_lifted (os : Os) (started : os.Started) (H : Type) (enc : TypeId × Value → H) :
    ReturnsInHanded {} Try.checked os 7 .any (Rows.fieldBytesSpec.pre6 enc Try.prog Try.f7 Rows.fieldBytesRow.domain false) (Rows.fieldBytesSpec.post enc Try.prog Try.f7 false true false false) := by
  refine returnsInHanded_of_change (C := Try.checked) Try.own started (by kernel_rfl) Try.func7
    (ChangeSpec.witness6 (enc := enc) (C := Try.checked) false ⟨#[], #[.agg (cs8 (List.replicate 32 0)), .agg (cs8 (List.replicate 32 0))], []⟩ 8 (by kernel_rfl) (by kernel_rfl) (by kernel_rfl) (by kernel_rfl)) ?_
  intro W base args ds gs before hval0 hW hcnd _
  have hval : ∀ (j : Nat) t v, Try.f7.params[j]? = some t → args[j]? = some v → Value.okWide Try.prog W .any base t v := hval0
  have hW' := hW
  obtain ⟨p, q, hA0, hV, rfl, hfz, hnd⟩ := hW
  have hA : DataW.TrodAll enc Try.prog W 0 (fun _ => true) true Try.f7.params.toList args.toList ds p := hA0
  rw [Try.params7] at hA hval
  obtain ⟨v0, v1, d0, d1, p0, p1, rfl, rfl, rfl, h0, h1⟩ := trodAll_two hA
  obtain ⟨rfl, rfl⟩ := trodVars_none hV
  obtain ⟨ka, ba, rfl⟩ := open_key (hval 0 23 v0 rfl rfl) h0
  obtain ⟨kb, bb, rfl⟩ := open_key (hval 1 23 v1 rfl rfl) h1
  refine (bytes_any ka kb ba bb W).mono fun e W' ⟨he, hb⟩ => ?_
  subst he
  exact ⟨_, rfl, post_true Try.laidOut (by rw [Try.params7]; decide +kernel) rfl hW' rfl rfl rfl rfl Try.underlying4 hb⟩

theorem fieldBytes_holds : Rows.FieldBytesSaid :=
  OpenClaim.holds_of_wide 7 Try.f7 rfl rfl rfl rfl rfl rfl rfl ⟨rfl, rfl, rfl, rfl, rfl⟩ rfl rfl rfl rfl rfl (by kernel_rfl) Try.func7 (by kernel_rfl)
    (of_decide_eq_true (by kernel_rfl)) (by unfold Func.isWrapper; first | (rw [if_pos (by decide +kernel)]; kernel_rfl) | (rw [if_neg (by decide +kernel)]; exact ⟨rfl, rfl⟩))
    (fun os started H enc _ => bytes_lifted os started H enc)
#print axioms fieldBytes_holds
end Go.Proofs.Ytpgmaidbemndnaa
