/- AeadApart, for every key, nonce and four texts: Seal of package aead makes unlike bytes of unlike texts; Open opens none of which a byte of the tag was turned, and no fifteen bytes (texts of at most 300 bytes in all; else the law asks its fixed call alone): the law returns true, and nothing that was there has turned; no condition. -/
import Derived.Test.YtcmoohkkaibgkaaApart5
import Derived.Test.YtcmoohkkaibgkaaLift
import Derived.ChangeMaps5
namespace Go.Proofs.Ytcmoohkkaibgkaa
open Go.ChangeShapes Go.WideShapes Go.ChangeAt Go.RowKit

theorem open_AeadApart {H : Type} {enc : TypeId × Value → H} {W : World} {r : Reach} {base base' : Nat} {spare : Nat → Bool} {held : Bool} {v : Value} {d : DataW H} {p : List MemPlace} (hv : Value.okWide Try.prog W r base 38 v) (h : DataW.Trod enc Try.prog W base' spare held 38 v d p) :
    ∃ T0 T1 T2 T3 : List Nat, (∀ i, T0.getD i 0 < 256) ∧ (∀ i, T1.getD i 0 < 256) ∧ (∀ i, T2.getD i 0 < 256) ∧ (∀ i, T3.getD i 0 < 256) ∧ v = .agg #[.string (bs T0), .string (bs T1), .string (bs T2), .string (bs T3)] := by
  obtain ⟨Ts, hl, hb, rfl⟩ := open_strs Try.underlying38 Try.underlying9 (by kernel_rfl) (by kernel_rfl) hv h
  match Ts, hl with
  | [T0, T1, T2, T3], _ => exact ⟨T0, T1, T2, T3, (hb T0 (by simp)).1, (hb T1 (by simp)).1, (hb T2 (by simp)).1, (hb T3 (by simp)).1, rfl⟩
set_option maxRecDepth 100000 in
theorem aeadapart_lifted (os : Os) (started : os.Started) (H : Type) (enc : TypeId × Value → H) :
    ReturnsInHanded {} Try.checked os 6 .any (Rows.aeadApartSpec.pre6 enc Try.prog Try.f6 Rows.aeadApartRow.domain false) (Rows.aeadApartSpec.post enc Try.prog Try.f6 false true false false) := by
  refine returnsInHanded_of_change (C := Try.checked) Try.own started (by kernel_rfl) Try.func6
    (ChangeSpec.witness6 (enc := enc) (C := Try.checked) false ⟨#[], #[.agg (cn .u8 (List.replicate 32 0)), .agg (cn .u8 (List.replicate 12 0)), .agg #[.string (bs []), .string (bs []), .string (bs []), .string (bs [])]], []⟩ 8 (by kernel_rfl) (by kernel_rfl) (by kernel_rfl) (by kernel_rfl)) ?_
  intro W base args ds gs before hval0 hW hcnd _
  have hval : ∀ (j : Nat) t v, Try.f6.params[j]? = some t → args[j]? = some v → Value.okWide Try.prog W .any base t v := hval0
  have hW' := hW
  obtain ⟨p, q, hA0, hV, rfl, hfz, hnd⟩ := hW
  have hA : DataW.TrodAll enc Try.prog W 0 (fun _ => true) true Try.f6.params.toList args.toList ds p := hA0
  rw [Try.params6] at hA hval
  obtain ⟨v0, v1, v2, d0, d1, d2, p0, p1, p2, rfl, rfl, rfl, h0_, h1_, h2_⟩ := trodAll_three hA
  obtain ⟨rfl, rfl⟩ := trodVars_none hV
  obtain ⟨K, hK, rfl⟩ := open_bytes Try.underlying23 Try.underlying5 (by kernel_rfl) (by kernel_rfl) (hval 0 23 v0 rfl rfl) h0_
  obtain ⟨N, hN, rfl⟩ := open_bytes Try.underlying25 Try.underlying5 (by kernel_rfl) (by kernel_rfl) (hval 1 25 v1 rfl rfl) h1_
  obtain ⟨T0, T1, T2, T3, h0, h1, h2, h3, rfl⟩ := open_AeadApart (hval 2 38 v2 rfl rfl) h2_
  by_cases hL : [T0, T1, T2, T3].flatten.length > 300
  · skip
    refine (aeadapart_long K N hK hN T0 T1 T2 T3 h0 h1 h2 h3 hL W).mono fun e W' ⟨he_, hb⟩ => ?_
    subst he_
    exact ⟨_, rfl, post_true Try.laidOut (by rw [Try.params6]; decide +kernel) rfl hW' rfl rfl rfl rfl Try.underlying4 hb⟩
  · skip
    by_cases ho : T1 = T2
    · skip
      refine (aeadapart_same K N hK hN T0 T1 T2 T3 h0 h1 h2 h3 hL ho W).mono fun e W' ⟨he_, hb⟩ => ?_
      subst he_
      exact ⟨_, rfl, post_true Try.laidOut (by rw [Try.params6]; decide +kernel) rfl hW' rfl rfl rfl rfl Try.underlying4 hb⟩
    · skip
      refine (aeadapart_else K N hK hN T0 T1 T2 T3 h0 h1 h2 h3 hL ho W).mono fun e W' ⟨he_, hb⟩ => ?_
      subst he_
      exact ⟨_, rfl, post_true Try.laidOut (by rw [Try.params6]; decide +kernel) rfl hW' rfl rfl rfl rfl Try.underlying4 hb⟩

theorem aeadApart_holds : Rows.AeadApartSaid :=
  OpenClaim.holds_of_wide 6 Try.f6 rfl rfl rfl rfl rfl rfl rfl ⟨rfl, rfl, rfl, rfl, rfl⟩ rfl rfl rfl rfl rfl (by kernel_rfl) Try.func6 (by kernel_rfl)
    (of_decide_eq_true (by kernel_rfl)) (by unfold Func.isWrapper; first | (rw [if_pos (by decide +kernel)]; kernel_rfl) | (rw [if_neg (by decide +kernel)]; exact ⟨rfl, rfl⟩))
    (fun os started H enc _ => aeadapart_lifted os started H enc)
#print axioms aeadApart_holds

end Go.Proofs.Ytcmoohkkaibgkaa
