/- BookBlind, for every tape of at most 500 bytes, every row of at most 25 calls that are short, and every row of texts: in the ideal game boxes under shared keys tell nothing of a text but its length, each opens to what was said, nothing is a forgery: the law returns true, and nothing that was there has turned. No condition. -/
import Derived.Test.YtniplfjnpjihoaaZ6
import Derived.Test.YtniplfjnpjihoaaZ2
import Derived.Test.YtniplfjnpjihoaaZ3
import Derived.ChangeMaps5
import Derived.SizedLaws
import Derived.SliceStrings
namespace Go.Proofs.Ytniplfjnpjihoaa
open Go.ChangeShapes Go.WideShapes Go.ChangeAt Go.RowKit
theorem strs_lt {Ps : List (List Nat)} (h : ∀ X ∈ Ps, ∀ i, X.getD i 0 < 256) (j i : Nat) : (Ps.getD j []).getD i 0 < 256 := by
  rcases Nat.lt_or_ge j Ps.length with hj | hj
  · exact h _ (getD_memL hj) i
  · have e : Ps.getD j [] = [] := by rw [List.getD_eq_getElem?_getD, List.getElem?_eq_none hj]; rfl
    rw [e]; simp
set_option maxRecDepth 100000 in
theorem bookblind_lifted (os : Os) (started : os.Started) (H : Type) (enc : TypeId × Value → H) :
    ReturnsInHanded {} Try.checked os 5 .any (Rows.bookBlindSpec.pre6 enc Try.prog Try.f5 Rows.bookBlindRow.domain false) (Rows.bookBlindSpec.post enc Try.prog Try.f5 false true false false) := by
  refine returnsInHanded_of_change (C := Try.checked) Try.own started (by kernel_rfl) Try.func5
    (ChangeSpec.witness6 (enc := enc) (C := Try.checked) false ⟨#[], #[.string (bs []), .slice none 0 0, .slice none 0 0], []⟩ 8 (by kernel_rfl) (by kernel_rfl) (by kernel_rfl) (by kernel_rfl)) ?_
  intro W base args ds gs before hval0 hW hcnd _
  have hval : ∀ (j : Nat) t v, Try.f5.params[j]? = some t → args[j]? = some v → Value.okWide Try.prog W .any base t v := hval0
  have hW' := hW
  obtain ⟨p, q, hA0, hV, rfl, hfz, hnd⟩ := hW
  have hA : DataW.TrodAll enc Try.prog W 0 (fun _ => true) true Try.f5.params.toList args.toList ds p := hA0
  rw [Try.params5] at hA hval
  obtain ⟨v0, v1, v2, d0, d1, d2, p0, p1, p2, rfl, rfl, rfl, h0_, h1_, h2_⟩ := trodAll_three hA
  obtain ⟨rfl, rfl⟩ := trodVars_none hV
  obtain ⟨sX, rfl, _, _, mX⟩ := Go.ChangeMaps.open_string Try.underlying9 (hval 0 9 v0 rfl rfl) h0_
  obtain ⟨X, hX, rfl⟩ : ∃ X : List Nat, (∀ i, X.getD i 0 < 256) ∧ sX = bs X := ⟨nl sX, nl_lt sX, (bs_nl sX).symm⟩
  obtain ⟨p, n, cp, fK, fA, fR, fW, fN, rfl, hW9, hN9, hR⟩ := acts_param (hval 1 22 v1 rfl rfl) h1_
  obtain ⟨q9, Ps, cq, rfl, hPs, hQ, hPm⟩ := strs_param Try.underlying38 Try.underlying9 (by kernel_rfl) (hval 2 38 v2 rfl rfl) h2_
  obtain ⟨O1, hH1, hD1, hA1, _⟩ := rowX_O (O := []) hR (fun i y hy => by simp at hy) .nil
  obtain ⟨O2, hH2, hD2, hT2, hS2⟩ := rowX_O (rowIn_strs hQ) hH1 hD1
  refine (blind_O O2 (distinct_of hD2) X hX p n cp fK fA fR fW fN hW9 q9 Ps.length cq (fun j => Ps.getD j []) (fun j i => strs_lt hPs j i) (Nat.le_trans hPm (by decide)) (hA1.mono hS2) hT2 W hH2).mono fun e W' ⟨he, hb⟩ => ?_
  subst he
  exact ⟨_, rfl, post_true Try.laidOut (by rw [Try.params5]; decide +kernel) rfl hW' rfl rfl rfl rfl Try.underlying4 hb⟩
theorem bookBlind_holds : Rows.BookBlindSaid :=
  OpenClaim.holds_of_wide 5 Try.f5 rfl rfl rfl rfl rfl rfl rfl ⟨rfl, rfl, rfl, rfl, rfl⟩ rfl rfl rfl rfl rfl (by kernel_rfl) Try.func5 (by kernel_rfl)
    (of_decide_eq_true (by kernel_rfl)) (by unfold Func.isWrapper; first | (rw [if_pos (by decide +kernel)]; kernel_rfl) | (rw [if_neg (by decide +kernel)]; exact ⟨rfl, rfl⟩))
    (fun os started H enc _ => bookblind_lifted os started H enc)
#print axioms bookBlind_holds
end Go.Proofs.Ytniplfjnpjihoaa
