/- AeadOwn, for every key, nonce and two texts: what Open of package aead opens is just what Seal makes of the text that it opens to; else it tells the empty text (texts of at most 300 bytes in all; else the law asks its fixed call alone): the law returns true, and nothing that was there has turned; no condition. -/
import Derived.Test.YtcmoohkkaibgkaaOwn5
import Derived.Test.YtcmoohkkaibgkaaLift
import Derived.ChangeMaps5
namespace Go.Proofs.Ytcmoohkkaibgkaa
open Go.ChangeShapes Go.WideShapes Go.ChangeAt Go.RowKit

theorem open_AeadOwn {H : Type} {enc : TypeId × Value → H} {W : World} {r : Reach} {base base' : Nat} {spare : Nat → Bool} {held : Bool} {v : Value} {d : DataW H} {p : List MemPlace} (hv : Value.okWide Try.prog W r base 36 v) (h : DataW.Trod enc Try.prog W base' spare held 36 v d p) :
    ∃ T0 T1 : List Nat, (∀ i, T0.getD i 0 < 256) ∧ (∀ i, T1.getD i 0 < 256) ∧ v = .agg #[.string (bs T0), .string (bs T1)] := by
  obtain ⟨Ts, hl, hb, rfl⟩ := open_strs Try.underlying36 Try.underlying9 (by kernel_rfl) (by kernel_rfl) hv h
  match Ts, hl with
  | [T0, T1], _ => exact ⟨T0, T1, (hb T0 (by simp)).1, (hb T1 (by simp)).1, rfl⟩
set_option maxRecDepth 100000 in
theorem aeadown_lifted (os : Os) (started : os.Started) (H : Type) (enc : TypeId × Value → H) :
    ReturnsInHanded {} Try.checked os 5 .any (Rows.aeadOwnSpec.pre6 enc Try.prog Try.f5 Rows.aeadOwnRow.domain false) (Rows.aeadOwnSpec.post enc Try.prog Try.f5 false true false false) := by
  refine returnsInHanded_of_change (C := Try.checked) Try.own started (by kernel_rfl) Try.func5
    (ChangeSpec.witness6 (enc := enc) (C := Try.checked) false ⟨#[], #[.agg (cn .u8 (List.replicate 32 0)), .agg (cn .u8 (List.replicate 12 0)), .agg #[.string (bs []), .string (bs [])]], []⟩ 8 (by kernel_rfl) (by kernel_rfl) (by kernel_rfl) (by kernel_rfl)) ?_
  intro W base args ds gs before hval0 hW hcnd _
  have hval : ∀ (j : Nat) t v, Try.f5.params[j]? = some t → args[j]? = some v → Value.okWide Try.prog W .any base t v := hval0
  have hW' := hW
  obtain ⟨p, q, hA0, hV, rfl, hfz, hnd⟩ := hW
  have hA : DataW.TrodAll enc Try.prog W 0 (fun _ => true) true Try.f5.params.toList args.toList ds p := hA0
  rw [Try.params5] at hA hval
  obtain ⟨v0, v1, v2, d0, d1, d2, p0, p1, p2, rfl, rfl, rfl, h0_, h1_, h2_⟩ := trodAll_three hA
  obtain ⟨rfl, rfl⟩ := trodVars_none hV
  obtain ⟨K, hK, rfl⟩ := open_bytes Try.underlying23 Try.underlying5 (by kernel_rfl) (by kernel_rfl) (hval 0 23 v0 rfl rfl) h0_
  obtain ⟨N, hN, rfl⟩ := open_bytes Try.underlying25 Try.underlying5 (by kernel_rfl) (by kernel_rfl) (hval 1 25 v1 rfl rfl) h1_
  obtain ⟨T0, T1, h0, h1, rfl⟩ := open_AeadOwn (hval 2 36 v2 rfl rfl) h2_
  by_cases hL : [T0, T1].flatten.length > 300
  · skip
    refine (aeadown_long K N hK hN T0 T1 h0 h1 hL W).mono fun e W' ⟨he_, hb⟩ => ?_
    subst he_
    exact ⟨_, rfl, post_true Try.laidOut (by rw [Try.params5]; decide +kernel) rfl hW' rfl rfl rfl rfl Try.underlying4 hb⟩
  · skip
    by_cases ho : opensN K N T0 T1
    · skip
      refine (aeadown_yes K N hK hN T0 T1 h0 h1 hL ho W).mono fun e W' ⟨he_, hb⟩ => ?_
      subst he_
      exact ⟨_, rfl, post_true Try.laidOut (by rw [Try.params5]; decide +kernel) rfl hW' rfl rfl rfl rfl Try.underlying4 hb⟩
    · skip
      refine (aeadown_no K N hK hN T0 T1 h0 h1 hL ho W).mono fun e W' ⟨he_, hb⟩ => ?_
      subst he_
      exact ⟨_, rfl, post_true Try.laidOut (by rw [Try.params5]; decide +kernel) rfl hW' rfl rfl rfl rfl Try.underlying4 hb⟩

theorem aeadOwn_holds : Rows.AeadOwnSaid :=
  OpenClaim.holds_of_wide 5 Try.f5 rfl rfl rfl rfl rfl rfl rfl ⟨rfl, rfl, rfl, rfl, rfl⟩ rfl rfl rfl rfl rfl (by kernel_rfl) Try.func5 (by kernel_rfl)
    (of_decide_eq_true (by kernel_rfl)) (by unfold Func.isWrapper; first | (rw [if_pos (by decide +kernel)]; kernel_rfl) | (rw [if_neg (by decide +kernel)]; exact ⟨rfl, rfl⟩))
    (fun os started H enc _ => aeadown_lifted os started H enc)
#print axioms aeadOwn_holds

end Go.Proofs.Ytcmoohkkaibgkaa
