/- FieldTells, for every two keys, every n and every which: what package field answers is what the document's answer says: the law returns true, and nothing that was there has turned; no condition. -/
import Derived.Test.YtpgmaidbemndnaaTells
import Derived.Test.YtpgmaidbemndnaaLift
namespace Go.Proofs.Ytpgmaidbemndnaa
open Go.ChangeShapes Go.WideShapes Go.ChangeAt Go.RowKit

theorem tells_any (cp : Array Value) (ka kb : List Nat) (n : Nat) (wh : Int) (ha : Bytes ka) (hb : Bytes kb) (hn : n < 18446744073709551616) (h1 : -9223372036854775808 ≤ wh) (h2 : wh ≤ 9223372036854775807)
    (p1 : ∀ j v, (cs8 ka)[j]? = some v → cp[0 + j]? = some v) (p2 : ∀ j v, (cs8 kb)[j]? = some v → cp[32 + j]? = some v) (pn : cp[64]? = some (.int .u64 (n : Nat))) (ph : cp[65]? = some (.int .i64 wh)) (w : World) :
    Calls Try.prog 3 #[.agg cp] w fun e w' => e = .returned (.bool true) ∧ Below w.heap.size w w' := by
  have sz : ∀ ks : List Nat, Bytes ks → (cs8 ks).size = 32 := fun ks h => by simp [cs8, h.1]
  have lt : ∀ n : Nat, n % pN < pN := fun n => Nat.mod_lt _ (by decide)
  exact tells_raw cp (cs8 ka) (cs8 kb) (numOf ka % pN) (numOf kb % pN) _ _ n wh _ hn (lt _) (lt _) rfl rfl (sz ka ha) (sz kb hb) (cs8_one _) (cs8_one _) p1 p2 pn ph
    (of_any ka ha) (of_any kb hb) (rof_any ka ha) (rof_any kb hb) (inv_any _ (Nat.lt_trans (lt _) pN_top)) (rinv_any _ (lt _)) (pick_any wh _ _ h1 h2) w

theorem bytes_of {H : Type} {enc : TypeId × Value → H} {W : World} {base' : Nat} {spare : Nat → Bool} {held : Bool} {fuel : Nat} {L : List Value} {x : DataW H × List MemPlace} (hf : DataW.trod enc Try.prog W base' spare held fuel 23 L = some x) :
    ∃ ks : List Nat, Bytes ks ∧ ∀ (j : Nat) (v : Value), (cs8 ks)[j]? = some v → L[j]? = some v := by
  obtain ⟨xs, m, _, _, _, hl, hel⟩ := DataW.trod_array Try.underlying23 hf
  rw [show Try.prog.cellsOf 5 = 1 by kernel_rfl] at hel
  have key : ∀ i, i < 32 → ∃ n : Nat, L[i]? = some (.int .u8 (n : Int)) ∧ n < 256 := fun i hi => by
    have h1 := hel i hi
    have h2 : xs[i]? = some (xs[i]'(by omega)) := by simp
    rw [h2] at h1
    obtain ⟨n, e, _, wf⟩ := DataW.trod_int Try.underlying5 h1
    obtain ⟨b0, b1⟩ := bounds_u8 wf
    obtain ⟨k, rfl⟩ := Int.eq_ofNat_of_zero_le b0
    refine ⟨k, ?_, by omega⟩
    rw [Nat.mul_one] at e
    have h3 := congrArg (fun l => l[0]?) e
    simpa using h3
  have hk : ∃ f : Nat → Nat, ∀ i, i < 32 → L[i]? = some (.int .u8 (f i : Int)) ∧ f i < 256 :=
    ⟨fun i => if h : i < 32 then (key i h).choose else 0, fun i hi => by simp only [hi, dif_pos]; exact (key i hi).choose_spec⟩
  obtain ⟨f, hf⟩ := hk
  refine ⟨(List.range 32).map f, ⟨by simp, fun i => ?_⟩, fun j v hv => ?_⟩
  · rcases Nat.lt_or_ge i 32 with h | h
    · simp [h]; exact (hf i h).2
    · simp [h]
  · rcases Nat.lt_or_ge j 32 with h | h
    · rw [(hf j h).1, ← hv, cs8_get _ _ (by simpa using h)]; simp [h]
    · rw [Array.getElem?_eq_none (by simp [cs8]; exact h)] at hv; cases hv

/-- The parameter that comes in: two keys, a number of 64 bits, an int. -/
theorem open_tells {H : Type} {enc : TypeId × Value → H} {W : World} {r : Reach} {base base' : Nat} {spare : Nat → Bool} {held : Bool} {v : Value} {d : DataW H} {p : List MemPlace} (hv : Value.okWide Try.prog W r base 26 v) (h : DataW.Trod enc Try.prog W base' spare held 26 v d p) :
    ∃ (cp : Array Value) (ka kb : List Nat) (n : Nat) (wh : Int), v = .agg cp ∧ Bytes ka ∧ Bytes kb ∧ n < 18446744073709551616 ∧ -9223372036854775808 ≤ wh ∧ wh ≤ 9223372036854775807 ∧
      (∀ j v, (cs8 ka)[j]? = some v → cp[0 + j]? = some v) ∧ (∀ j v, (cs8 kb)[j]? = some v → cp[32 + j]? = some v) ∧ cp[64]? = some (.int .u64 (n : Nat)) ∧ cp[65]? = some (.int .i64 wh) := by
  have hv' : ∃ cs, v = .agg cs := by
    simp only [Value.okWide, Try.underlying26] at hv
    obtain ⟨cs, h1, _⟩ := hv
    exact ⟨cs, h1⟩
  obtain ⟨cs, rfl⟩ := hv'
  obtain ⟨fuel, hf⟩ := h
  obtain ⟨xs, m, _, _, hl, hlen, hel⟩ := DataW.trod_struct Try.underlying26 hf
  have hx : xs.length = 4 := hlen
  have e0 : DataW.trod enc Try.prog W base' spare held m 23 (List.take (Try.prog.cellsOf 23) (List.drop 0 (Value.agg cs).cells.toList)) = xs[0]? := hel 0 _ rfl
  rw [show Try.prog.cellsOf 23 = 32 by kernel_rfl] at e0
  have e1 : DataW.trod enc Try.prog W base' spare held m 23 (List.take (Try.prog.cellsOf 23) (List.drop 32 (Value.agg cs).cells.toList)) = xs[1]? := hel 1 _ rfl
  rw [show Try.prog.cellsOf 23 = 32 by kernel_rfl] at e1
  have e2 : DataW.trod enc Try.prog W base' spare held m 24 (List.take (Try.prog.cellsOf 24) (List.drop 64 (Value.agg cs).cells.toList)) = xs[2]? := hel 2 _ rfl
  rw [show Try.prog.cellsOf 24 = 1 by kernel_rfl] at e2
  have e3 : DataW.trod enc Try.prog W base' spare held m 3 (List.take (Try.prog.cellsOf 3) (List.drop 65 (Value.agg cs).cells.toList)) = xs[3]? := hel 3 _ rfl
  rw [show Try.prog.cellsOf 3 = 1 by kernel_rfl] at e3
  have g : ∀ i, i < 4 → xs[i]? = some (xs[i]?.getD (.agg [], [])) := fun i hi => by simp [hx, hi]
  rw [g 0 (by omega)] at e0
  rw [g 1 (by omega)] at e1
  rw [g 2 (by omega)] at e2
  rw [g 3 (by omega)] at e3
  obtain ⟨ka, ba, pa⟩ := bytes_of e0
  obtain ⟨kb, bb, pb⟩ := bytes_of e1
  obtain ⟨n, en, _, wn⟩ := DataW.trod_int Try.underlying24 e2
  obtain ⟨wh, ew, _, ww⟩ := DataW.trod_int Try.underlying3 e3
  have bn := bounds_u64 wn
  have bw := bounds_i64 ww
  obtain ⟨k, rfl⟩ := Int.eq_ofNat_of_zero_le bn.1
  refine ⟨cs, ka, kb, k, wh, rfl, ba, bb, by have := bn.2; omega, by have := bw.1; omega, by have := bw.2; omega, fun j v hv => ?_, fun j v hv => ?_, ?_, ?_⟩
  · have := pa j v hv
    have hj : j < 32 := by
      rcases Nat.lt_or_ge j 32 with h | h
      · exact h
      · rw [List.getElem?_eq_none (by simp; omega)] at this; cases this
    simpa [List.getElem?_take, hj, Value.cells] using this
  · have := pb j v hv
    have hj : j < 32 := by
      rcases Nat.lt_or_ge j 32 with h | h
      · exact h
      · rw [List.getElem?_eq_none (by simp; omega)] at this; cases this
    simpa [List.getElem?_take, hj, Value.cells] using this
  · have h3 := congrArg (fun l => l[0]?) en
    simpa [Value.cells] using h3
  · have h3 := congrArg (fun l => l[0]?) ew
    simpa [Value.cells] using h3

set_option maxRecDepth 100000 in
theorem tells_lifted (os : Os) (started : os.Started) (H : Type) (enc : TypeId × Value → H) :
    ReturnsInHanded {} Try.checked os 3 .any (Rows.fieldTellsSpec.pre6 enc Try.prog Try.f3 Rows.fieldTellsRow.domain false) (Rows.fieldTellsSpec.post enc Try.prog Try.f3 false true false false) := by
  refine returnsInHanded_of_change (C := Try.checked) Try.own started (by kernel_rfl) Try.func3
    (ChangeSpec.witness6 (enc := enc) (C := Try.checked) false ⟨#[], #[.agg (cs8 (List.replicate 64 0) ++ #[.int .u64 0, .int .i64 0])], []⟩ 8 (by kernel_rfl) (by kernel_rfl) (by kernel_rfl) (by kernel_rfl)) ?_
  intro W base args ds gs before hval0 hW hcnd _
  have hval : ∀ (j : Nat) t v, Try.f3.params[j]? = some t → args[j]? = some v → Value.okWide Try.prog W .any base t v := hval0
  have hW' := hW
  obtain ⟨p, q, hA0, hV, rfl, hfz, hnd⟩ := hW
  have hA : DataW.TrodAll enc Try.prog W 0 (fun _ => true) true Try.f3.params.toList args.toList ds p := hA0
  rw [Try.params3] at hA hval
  obtain ⟨v0, d0, rfl, rfl, h0⟩ := trodAll_one hA
  obtain ⟨rfl, rfl⟩ := trodVars_none hV
  obtain ⟨cp, ka, kb, n, wh, rfl, ba, bb, hn, w1, w2, p1, p2, pn, ph⟩ := open_tells (hval 0 26 v0 rfl rfl) h0
  refine (tells_any cp ka kb n wh ba bb hn w1 w2 p1 p2 pn ph W).mono fun e W' ⟨he, hb⟩ => ?_
  subst he
  exact ⟨_, rfl, post_true Try.laidOut (by rw [Try.params3]; decide +kernel) rfl hW' rfl rfl rfl rfl Try.underlying4 hb⟩

theorem fieldTells_holds : Rows.FieldTellsSaid :=
  OpenClaim.holds_of_wide 3 Try.f3 rfl rfl rfl rfl rfl rfl rfl ⟨rfl, rfl, rfl, rfl, rfl⟩ rfl rfl rfl rfl rfl (by kernel_rfl) Try.func3 (by kernel_rfl)
    (of_decide_eq_true (by kernel_rfl)) (by unfold Func.isWrapper; first | (rw [if_pos (by decide +kernel)]; kernel_rfl) | (rw [if_neg (by decide +kernel)]; exact ⟨rfl, rfl⟩))
    (fun os started H enc _ => tells_lifted os started H enc)
#print axioms fieldTells_holds
end Go.Proofs.Ytpgmaidbemndnaa
