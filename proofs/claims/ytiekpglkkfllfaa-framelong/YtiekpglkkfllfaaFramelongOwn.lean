/- FrameLong, for every five bytes: a frame whose data have from two bytes less than the most to two more goes where they are not more than the most, and comes back, and is refused where they are: the law returns true, and nothing that was there has turned. No condition. -/
import Derived.Test.YtiekpglkkfllfaaZ3
import Derived.Test.YtiekpglkkfllfaaZ2
import Derived.SliceStrings
import Derived.ChangeMaps5
import Derived.SizedLaws
namespace Go.Proofs.Ytiekpglkkfllfaa
open Go.ChangeShapes Go.WideShapes Go.ChangeAt Go.RowKit
theorem lit5 {cp : Array Value} {a b c d e : Value} (hs : cp.size = 5) (h0 : cp[0]? = some a) (h1 : cp[1]? = some b) (h2 : cp[2]? = some c) (h3 : cp[3]? = some d) (h4 : cp[4]? = some e) : cp = #[a, b, c, d, e] := by
  refine Array.ext_getElem? fun i => ?_
  match i with
  | 0 => exact h0
  | 1 => exact h1
  | 2 => exact h2
  | 3 => exact h3
  | 4 => exact h4
  | i + 5 => rw [Array.getElem?_eq_none (by omega), Array.getElem?_eq_none (by simp)]
set_option maxRecDepth 10000 in
theorem ask_open {H : Type} {enc : TypeId × Value → H} {W : World} {r : Reach} {base base' : Nat} {spare : Nat → Bool} {held : Bool} {v : Value} {d : DataW H} {p : List MemPlace} (hv : Value.okWide Try.prog W r base 45 v) (h : DataW.Trod enc Try.prog W base' spare held 45 v d p) :
    ∃ (cp : Array Value) (f : Nat) (t : Nat) (k : Nat) (n : Nat) (b : Nat), v = .agg cp ∧ f < 256 ∧ cp[0]? = some (.int .u8 (f : Nat)) ∧ t < 256 ∧ cp[1]? = some (.int .u8 (t : Nat)) ∧ k < 256 ∧ cp[2]? = some (.int .u8 (k : Nat)) ∧ n < 256 ∧ cp[3]? = some (.int .u8 (n : Nat)) ∧ b < 256 ∧ cp[4]? = some (.int .u8 (b : Nat)) ∧ cp.size = 5 := by
  have hv' : ∃ cs, v = .agg cs ∧ cs.size = 5 := by
    simp only [Value.okWide, Try.underlying45] at hv
    obtain ⟨cs, h1, h2, _⟩ := hv
    exact ⟨cs, h1, h2.trans (by kernel_rfl)⟩
  obtain ⟨cs, rfl, hsz⟩ := hv'
  obtain ⟨fuel, hf⟩ := h
  obtain ⟨xs, m, _, _, hl, hlen, hel⟩ := DataW.trod_struct Try.underlying45 hf
  have hx : xs.length = 5 := hlen
  have g : ∀ i, i < 5 → xs[i]? = some (xs[i]?.getD (.agg [], [])) := fun i hi => by simp [hx, hi]
  have e0 : DataW.trod enc Try.prog W base' spare held m 5 (List.take (Try.prog.cellsOf 5) (List.drop 0 (Value.agg cs).cells.toList)) = xs[0]? := hel 0 _ rfl
  rw [show Try.prog.cellsOf 5 = 1 by kernel_rfl, g 0 (by omega)] at e0
  obtain ⟨z0, q0, _, w0⟩ := DataW.trod_int Try.underlying5 e0
  have bb0 := bounds_u8 w0
  obtain ⟨f, rfl⟩ := Int.eq_ofNat_of_zero_le bb0.1
  have e1 : DataW.trod enc Try.prog W base' spare held m 5 (List.take (Try.prog.cellsOf 5) (List.drop 1 (Value.agg cs).cells.toList)) = xs[1]? := hel 1 _ rfl
  rw [show Try.prog.cellsOf 5 = 1 by kernel_rfl, g 1 (by omega)] at e1
  obtain ⟨z1, q1, _, w1⟩ := DataW.trod_int Try.underlying5 e1
  have bb1 := bounds_u8 w1
  obtain ⟨t, rfl⟩ := Int.eq_ofNat_of_zero_le bb1.1
  have e2 : DataW.trod enc Try.prog W base' spare held m 5 (List.take (Try.prog.cellsOf 5) (List.drop 2 (Value.agg cs).cells.toList)) = xs[2]? := hel 2 _ rfl
  rw [show Try.prog.cellsOf 5 = 1 by kernel_rfl, g 2 (by omega)] at e2
  obtain ⟨z2, q2, _, w2⟩ := DataW.trod_int Try.underlying5 e2
  have bb2 := bounds_u8 w2
  obtain ⟨k, rfl⟩ := Int.eq_ofNat_of_zero_le bb2.1
  have e3 : DataW.trod enc Try.prog W base' spare held m 5 (List.take (Try.prog.cellsOf 5) (List.drop 3 (Value.agg cs).cells.toList)) = xs[3]? := hel 3 _ rfl
  rw [show Try.prog.cellsOf 5 = 1 by kernel_rfl, g 3 (by omega)] at e3
  obtain ⟨z3, q3, _, w3⟩ := DataW.trod_int Try.underlying5 e3
  have bb3 := bounds_u8 w3
  obtain ⟨n, rfl⟩ := Int.eq_ofNat_of_zero_le bb3.1
  have e4 : DataW.trod enc Try.prog W base' spare held m 5 (List.take (Try.prog.cellsOf 5) (List.drop 4 (Value.agg cs).cells.toList)) = xs[4]? := hel 4 _ rfl
  rw [show Try.prog.cellsOf 5 = 1 by kernel_rfl, g 4 (by omega)] at e4
  obtain ⟨z4, q4, _, w4⟩ := DataW.trod_int Try.underlying5 e4
  have bb4 := bounds_u8 w4
  obtain ⟨b, rfl⟩ := Int.eq_ofNat_of_zero_le bb4.1
  exact ⟨cs, f, t, k, n, b, rfl, (by have := bb0.2; omega), (by have h3 := congrArg (fun l => l[0]?) q0; simpa [Value.cells] using h3), (by have := bb1.2; omega), (by have h3 := congrArg (fun l => l[0]?) q1; simpa [Value.cells] using h3), (by have := bb2.2; omega), (by have h3 := congrArg (fun l => l[0]?) q2; simpa [Value.cells] using h3), (by have := bb3.2; omega), (by have h3 := congrArg (fun l => l[0]?) q3; simpa [Value.cells] using h3), (by have := bb4.2; omega), (by have h3 := congrArg (fun l => l[0]?) q4; simpa [Value.cells] using h3), hsz⟩
set_option maxRecDepth 100000 in
theorem framelong_lifted (os : Os) (started : os.Started) (H : Type) (enc : TypeId × Value → H) :
    ReturnsInHanded {} Try.checked os 7 .any (Rows.frameLongSpec.pre6 enc Try.prog Try.f7 Rows.frameLongRow.domain false) (Rows.frameLongSpec.post enc Try.prog Try.f7 false true false false) := by
  refine returnsInHanded_of_change (C := Try.checked) Try.own started (by kernel_rfl) Try.func7
    (ChangeSpec.witness6 (enc := enc) (C := Try.checked) false ⟨#[], #[.agg #[.int .u8 0, .int .u8 0, .int .u8 0, .int .u8 0, .int .u8 0]], []⟩ 8 (by kernel_rfl) (by kernel_rfl) (by kernel_rfl) (by kernel_rfl)) ?_
  intro W base args ds gs before hval0 hW hcnd _
  have hval : ∀ (j : Nat) t v, Try.f7.params[j]? = some t → args[j]? = some v → Value.okWide Try.prog W .any base t v := hval0
  have hW' := hW
  obtain ⟨p, q, hA0, hV, rfl, hfz, hnd⟩ := hW
  have hA : DataW.TrodAll enc Try.prog W 0 (fun _ => true) true Try.f7.params.toList args.toList ds p := hA0
  rw [Try.params7] at hA hval
  obtain ⟨v0, d0, rfl, rfl, h0_⟩ := trodAll_one hA
  obtain ⟨rfl, rfl⟩ := trodVars_none hV
  obtain ⟨cp, f, t, k, n, b, rfl, hf, c0, ht, c1, hk, c2, hn, c3, hb_, c4, cs_⟩ := ask_open (hval 0 45 v0 rfl rfl) h0_
  obtain rfl := lit5 cs_ c0 c1 c2 c3 c4
  refine (long_any f t k n b hf ht hk hn hb_ W).mono fun e W' ⟨he, hb⟩ => ?_
  subst he
  exact ⟨_, rfl, post_true Try.laidOut (by rw [Try.params7]; decide +kernel) rfl hW' rfl rfl rfl rfl Try.underlying4 hb⟩
theorem frameLong_holds : Rows.FrameLongSaid :=
  OpenClaim.holds_of_wide 7 Try.f7 rfl rfl rfl rfl rfl rfl rfl ⟨rfl, rfl, rfl, rfl, rfl⟩ rfl rfl rfl rfl rfl (by kernel_rfl) Try.func7 (by kernel_rfl)
    (of_decide_eq_true (by kernel_rfl)) (by unfold Func.isWrapper; first | (rw [if_pos (by decide +kernel)]; kernel_rfl) | (rw [if_neg (by decide +kernel)]; exact ⟨rfl, rfl⟩))
    (fun os started H enc _ => framelong_lifted os started H enc)
#print axioms frameLong_holds
end Go.Proofs.Ytiekpglkkfllfaa
