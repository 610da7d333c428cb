/- FrameTells, for every frame, every text and every address: whether the frame may be, its bytes, what the text is as a frame and which user the address is, are what the document says: the law returns true, and nothing that was there has turned. No condition. -/
import Derived.Test.YtiekpglkkfllfaaZ3
import Derived.Test.YtiekpglkkfllfaaZ2
import Derived.SliceStrings
import Derived.ChangeMaps5
import Derived.SizedLaws
namespace Go.Proofs.Ytiekpglkkfllfaa
open Go.ChangeShapes Go.WideShapes Go.ChangeAt Go.RowKit
theorem lit5 {cp : Array Value} {a b c d e : Value} (hs : cp.size = 5) (h0 : cp[0]? = some a) (h1 : cp[1]? = some b) (h2 : cp[2]? = some c) (h3 : cp[3]? = some d) (h4 : cp[4]? = some e) : cp = #[a, b, c, d, e] := by
  refine Array.ext_getElem? fun i => ?_
  match i with
  | 0 => exact h0
  | 1 => exact h1
  | 2 => exact h2
  | 3 => exact h3
  | 4 => exact h4
  | i + 5 => rw [Array.getElem?_eq_none (by omega), Array.getElem?_eq_none (by simp)]
set_option maxRecDepth 10000 in
theorem frame_open {H : Type} {enc : TypeId × Value → H} {W : World} {r : Reach} {base base' : Nat} {spare : Nat → Bool} {held : Bool} {v : Value} {d : DataW H} {p : List MemPlace} (hv : Value.okWide Try.prog W r base 24 v) (h : DataW.Trod enc Try.prog W base' spare held 24 v d p) :
    ∃ (cp : Array Value) (a : Int) (t : Int) (k : Int) (r : Nat) (X : List Nat), v = .agg cp ∧ (-9223372036854775808 ≤ a) ∧ (a < 9223372036854775808) ∧ cp[0]? = some (.int .i64 a) ∧ (-9223372036854775808 ≤ t) ∧ (t < 9223372036854775808) ∧ cp[1]? = some (.int .i64 t) ∧ (-9223372036854775808 ≤ k) ∧ (k < 9223372036854775808) ∧ cp[2]? = some (.int .i64 k) ∧ r < 18446744073709551616 ∧ cp[3]? = some (.int .u64 (r : Nat)) ∧ (∀ i, X.getD i 0 < 256) ∧ cp[4]? = some (.string (bs X)) ∧ X.length ≤ maxLen ∧ cp.size = 5 := by
  have hv' : ∃ cs, v = .agg cs ∧ cs.size = 5 := by
    simp only [Value.okWide, Try.underlying24] at hv
    obtain ⟨cs, h1, h2, _⟩ := hv
    exact ⟨cs, h1, h2.trans (by kernel_rfl)⟩
  obtain ⟨cs, rfl, hsz⟩ := hv'
  obtain ⟨fuel, hf⟩ := h
  obtain ⟨xs, m, _, _, hl, hlen, hel⟩ := DataW.trod_struct Try.underlying24 hf
  have hx : xs.length = 5 := hlen
  have g : ∀ i, i < 5 → xs[i]? = some (xs[i]?.getD (.agg [], [])) := fun i hi => by simp [hx, hi]
  have e0 : DataW.trod enc Try.prog W base' spare held m 3 (List.take (Try.prog.cellsOf 3) (List.drop 0 (Value.agg cs).cells.toList)) = xs[0]? := hel 0 _ rfl
  rw [show Try.prog.cellsOf 3 = 1 by kernel_rfl, g 0 (by omega)] at e0
  obtain ⟨a, q0, _, w0⟩ := DataW.trod_int Try.underlying3 e0
  have bb0 := bounds_i64 w0
  have e1 : DataW.trod enc Try.prog W base' spare held m 3 (List.take (Try.prog.cellsOf 3) (List.drop 1 (Value.agg cs).cells.toList)) = xs[1]? := hel 1 _ rfl
  rw [show Try.prog.cellsOf 3 = 1 by kernel_rfl, g 1 (by omega)] at e1
  obtain ⟨t, q1, _, w1⟩ := DataW.trod_int Try.underlying3 e1
  have bb1 := bounds_i64 w1
  have e2 : DataW.trod enc Try.prog W base' spare held m 3 (List.take (Try.prog.cellsOf 3) (List.drop 2 (Value.agg cs).cells.toList)) = xs[2]? := hel 2 _ rfl
  rw [show Try.prog.cellsOf 3 = 1 by kernel_rfl, g 2 (by omega)] at e2
  obtain ⟨k, q2, _, w2⟩ := DataW.trod_int Try.underlying3 e2
  have bb2 := bounds_i64 w2
  have e3 : DataW.trod enc Try.prog W base' spare held m 22 (List.take (Try.prog.cellsOf 22) (List.drop 3 (Value.agg cs).cells.toList)) = xs[3]? := hel 3 _ rfl
  rw [show Try.prog.cellsOf 22 = 1 by kernel_rfl, g 3 (by omega)] at e3
  obtain ⟨z3, q3, _, w3⟩ := DataW.trod_int Try.underlying22 e3
  have bb3 := bounds_u64 w3
  obtain ⟨r, rfl⟩ := Int.eq_ofNat_of_zero_le bb3.1
  have e4 : DataW.trod enc Try.prog W base' spare held m 9 (List.take (Try.prog.cellsOf 9) (List.drop 4 (Value.agg cs).cells.toList)) = xs[4]? := hel 4 _ rfl
  rw [show Try.prog.cellsOf 9 = 1 by kernel_rfl, g 4 (by omega)] at e4
  obtain ⟨s4, q4, _, m4⟩ := DataW.trod_string Try.underlying9 e4
  exact ⟨cs, a, t, k, r, nl s4, rfl, bb0.1, (by have := bb0.2; omega), (by have h3 := congrArg (fun l => l[0]?) q0; simpa [Value.cells] using h3), bb1.1, (by have := bb1.2; omega), (by have h3 := congrArg (fun l => l[0]?) q1; simpa [Value.cells] using h3), bb2.1, (by have := bb2.2; omega), (by have h3 := congrArg (fun l => l[0]?) q2; simpa [Value.cells] using h3), (by have := bb3.2; omega), (by have h3 := congrArg (fun l => l[0]?) q3; simpa [Value.cells] using h3), nl_lt s4, (by rw [bs_nl]; have h3 := congrArg (fun l => l[0]?) q4; simpa [Value.cells] using h3), (by rw [nl_len]; exact m4), hsz⟩
set_option maxRecDepth 100000 in
theorem frametells_lifted (os : Os) (started : os.Started) (H : Type) (enc : TypeId × Value → H) :
    ReturnsInHanded {} Try.checked os 3 .any (Rows.frameTellsSpec.pre6 enc Try.prog Try.f3 Rows.frameTellsRow.domain false) (Rows.frameTellsSpec.post enc Try.prog Try.f3 false true false false) := by
  refine returnsInHanded_of_change (C := Try.checked) Try.own started (by kernel_rfl) Try.func3
    (ChangeSpec.witness6 (enc := enc) (C := Try.checked) false ⟨#[], #[.agg #[.int .i64 0, .int .i64 0, .int .i64 0, .int .u64 0, .string (bs [])], .string (bs []), .int .i64 0], []⟩ 8 (by kernel_rfl) (by kernel_rfl) (by kernel_rfl) (by kernel_rfl)) ?_
  intro W base args ds gs before hval0 hW hcnd _
  have hval : ∀ (j : Nat) t v, Try.f3.params[j]? = some t → args[j]? = some v → Value.okWide Try.prog W .any base t v := hval0
  have hW' := hW
  obtain ⟨p, q, hA0, hV, rfl, hfz, hnd⟩ := hW
  have hA : DataW.TrodAll enc Try.prog W 0 (fun _ => true) true Try.f3.params.toList args.toList ds p := hA0
  rw [Try.params3] at hA hval
  obtain ⟨v0, v1, v2, d0, d1, d2, p0, p1, p2, rfl, rfl, rfl, h0_, h1_, h2_⟩ := trodAll_three hA
  obtain ⟨rfl, rfl⟩ := trodVars_none hV
  obtain ⟨cp0, a, t, k, r, X, rfl, _, _, d0, _, _, d1, _, _, d2, hr, d3, hX, d4, _, ds⟩ := frame_open (hval 0 24 v0 rfl rfl) h0_
  obtain rfl := lit5 ds d0 d1 d2 d3 d4
  obtain ⟨sY, rfl, _, _, mY⟩ := Go.ChangeMaps.open_string Try.underlying9 (hval 1 9 v1 rfl rfl) h1_
  obtain ⟨Y, hY, rfl⟩ : ∃ X : List Nat, (∀ i, X.getD i 0 < 256) ∧ sY = bs X := ⟨nl sY, nl_lt sY, (bs_nl sY).symm⟩
  obtain ⟨z, rfl, _, _, _⟩ := open_int Try.underlying3 (hval 2 3 v2 rfl rfl) h2_
  refine (tells_any a t k r hr X hX Y hY z W).mono fun e W' ⟨he, hb⟩ => ?_
  subst he
  exact ⟨_, rfl, post_true Try.laidOut (by rw [Try.params3]; decide +kernel) rfl hW' rfl rfl rfl rfl Try.underlying4 hb⟩
theorem frameTells_holds : Rows.FrameTellsSaid :=
  OpenClaim.holds_of_wide 3 Try.f3 rfl rfl rfl rfl rfl rfl rfl ⟨rfl, rfl, rfl, rfl, rfl⟩ rfl rfl rfl rfl rfl (by kernel_rfl) Try.func3 (by kernel_rfl)
    (of_decide_eq_true (by kernel_rfl)) (by unfold Func.isWrapper; first | (rw [if_pos (by decide +kernel)]; kernel_rfl) | (rw [if_neg (by decide +kernel)]; exact ⟨rfl, rfl⟩))
    (fun os started H enc _ => frametells_lifted os started H enc)
#print axioms frameTells_holds
end Go.Proofs.Ytiekpglkkfllfaa
