/- CurveClamps, for every scalar, every point and whatever bits: the bits of a scalar that are set anyhow, and a point's highest bit, do not count in what package curve's Mul makes: the law returns true, and nothing that was there has turned; no condition. -/
import Derived.Test.YtfciodbgjljjhaaClamps
import Derived.Test.YtfciodbgjljjhaaLift
namespace Go.Proofs.Ytfciodbgjljjhaa
open Go.ChangeShapes Go.WideShapes Go.ChangeAt Go.RowKit

theorem cs8_set (L : List Nat) (i n : Nat) : (cs8 L).setIfInBounds i (.int .u8 ((n : Nat) : Int)) = cs8 (L.set i n) := by simp [cs8, List.map_set]
theorem or_8 : ∀ (a : Fin 32) (b : Fin 8), bits .or .u8 ((a.val * 8 : Nat) : Int) ((b.val : Nat) : Int) = ((a.val * 8 + b.val : Nat) : Int) := by decide +kernel
theorem and_7' : ∀ v : Fin 256, bits .and .u8 ((v.val : Nat) : Int) 7 = ((v.val % 8 : Nat) : Int) := by decide +kernel
theorem and_63 : ∀ v : Fin 256, bits .and .u8 ((v.val : Nat) : Int) 63 = ((v.val % 64 : Nat) : Int) := by decide +kernel
theorem and_192 : ∀ v : Fin 256, bits .and .u8 ((v.val : Nat) : Int) 192 = ((v.val / 64 * 64 : Nat) : Int) := by decide +kernel
theorem or_64' : ∀ (a : Fin 64) (b : Fin 4), bits .or .u8 ((a.val : Nat) : Int) ((b.val * 64 : Nat) : Int) = ((a.val + b.val * 64 : Nat) : Int) := by decide +kernel
theorem or_128 : ∀ (a : Fin 128) (b : Fin 2), bits .or .u8 ((a.val : Nat) : Int) ((b.val * 128 : Nat) : Int) = ((a.val + b.val * 128 : Nat) : Int) := by decide +kernel
theorem shl_7 : ∀ v : Fin 256, IntKind.u8.wrap (((v.val : Nat) : Int) * 128) = ((v.val % 2 * 128 : Nat) : Int) := by decide +kernel
theorem numOf_top {ks : List Nat} (h : Bytes ks) (x : Nat) (hx : x % 128 = ks.getD 31 0 % 128) : numOf (ks.set 31 x) = numOf ks := by
  have same : ∀ i, i ≠ 31 → (ks.set 31 x).getD i 0 = ks.getD i 0 := fun i hi => by rw [getD_set, if_neg (by omega)]
  have top : (ks.set 31 x).getD 31 0 = x := by rw [getD_set, if_pos ⟨rfl, by rw [h.1]; decide⟩]
  have e3 : wordTo (ks.set 31 x) 24 8 % 9223372036854775808 = wordTo ks 24 8 % 9223372036854775808 := by
    have a : wordTo (ks.set 31 x) 24 7 = wordTo ks 24 7 := wordTo_congr 24 7 (fun j hj => same _ (by omega))
    show (wordTo (ks.set 31 x) 24 7 + (ks.set 31 x).getD 31 0 * 256 ^ 7) % 9223372036854775808 = (wordTo ks 24 7 + ks.getD 31 0 * 256 ^ 7) % 9223372036854775808
    rw [a, top]
    simp only [Nat.reducePow]
    omega
  unfold numOf
  rw [e3, wordTo_congr 0 8 (fun j hj => same _ (by omega)), wordTo_congr 8 8 (fun j hj => same _ (by omega)), wordTo_congr 16 8 (fun j hj => same _ (by omega))]
theorem bytes_set {ks : List Nat} (h : Bytes ks) (i x : Nat) (hx : x < 256) : Bytes (ks.set i x) := by
  refine ⟨by rw [List.length_set]; exact h.1, fun j => ?_⟩
  rw [getD_set]
  split
  · exact hx
  · exact h.2 j
theorem scal_same {ks : List Nat} (h : Bytes ks) (x y : Nat) (hx : x / 8 = ks.getD 0 0 / 8) (hy : y % 64 = ks.getD 31 0 % 64) : scal ((ks.set 0 x).set 31 y) = scal ks := by
  have h0 : ((ks.set 0 x).set 31 y).getD 0 0 = x := by rw [getD_set, if_neg (by omega), getD_set, if_pos ⟨rfl, by rw [h.1]; decide⟩]
  have h31 : ((ks.set 0 x).set 31 y).getD 31 0 = y := by rw [getD_set, if_pos ⟨rfl, by rw [List.length_set, h.1]; decide⟩]
  unfold scal
  rw [h0, h31, hx, hy]
  rw [List.set_comm _ _ (show (31 : Nat) ≠ 0 by decide), List.set_set, List.set_set]
theorem clamps_any (cp : Array Value) (ks us : List Nat) (lo hi : Nat) (bk : Bytes ks) (bu : Bytes us) (hlo : lo < 256) (hhi : hi < 256)
    (p1 : ∀ (j : Nat) v, (cs8 ks)[j]? = some v → cp[0 + j]? = some v) (p2 : ∀ (j : Nat) v, (cs8 us)[j]? = some v → cp[32 + j]? = some v) (pn : cp[64]? = some (.int .u8 (lo : Nat))) (ph : cp[65]? = some (.int .u8 (hi : Nat))) (w : World) :
    Calls Try.prog 6 #[.agg cp] w fun e w' => e = .returned (.bool true) ∧ Below w.heap.size w w' := by
  have k0 := bk.2 0
  have k31 := bk.2 31
  have u31 := bu.2 31
  have bl : Bytes ((ks.set 0 (ks.getD 0 0 / 8 * 8 + lo % 8)).set 31 (ks.getD 31 0 % 64 + hi / 64 * 64)) := bytes_set (bytes_set bk 0 _ (by omega)) 31 _ (by omega)
  have bv : Bytes (us.set 31 (us.getD 31 0 % 128 + hi % 2 * 128)) := bytes_set bu 31 _ (by omega)
  refine clamps_raw cp ks us ((ks.set 0 (ks.getD 0 0 / 8 * 8 + lo % 8)).set 31 (ks.getD 31 0 % 64 + hi / 64 * 64)) (us.set 31 (us.getD 31 0 % 128 + hi % 2 * 128)) lo hi (curveN ks us) bk bu bl bv rfl ?_ p1 p2 pn ph (ks.getD 0 0) (ks.getD 31 0) (us.getD 31 0) _ _ _
    (cs8_get ks 0 (by rw [bk.1]; decide)) (cs8_get ks 31 (by rw [bk.1]; decide)) (cs8_get us 31 (by rw [bu.1]; decide)) ?_ ?_ ?_ (by rw [cs8_set, cs8_set]) (by rw [cs8_set]) w
  · unfold curveN
    rw [scal_same bk _ _ (by omega) (by omega), numOf_top bu _ (by omega)]
  · have a := and_248 ⟨ks.getD 0 0, k0⟩
    have b := and_7' ⟨lo, hlo⟩
    have c := or_8 ⟨ks.getD 0 0 / 8, by omega⟩ ⟨lo % 8, by omega⟩
    simp only at a b c
    rw [a, b, c]
  · have a := and_63 ⟨ks.getD 31 0, k31⟩
    have b := and_192 ⟨hi, hhi⟩
    have c := or_64' ⟨ks.getD 31 0 % 64, by omega⟩ ⟨hi / 64, by omega⟩
    simp only at a b c
    rw [a, b, c]
  · have a := and_127 ⟨us.getD 31 0, u31⟩
    have b := shl_7 ⟨hi, hhi⟩
    have c := or_128 ⟨us.getD 31 0 % 128, by omega⟩ ⟨hi % 2, by omega⟩
    simp only at a b c
    rw [a, b, c]

theorem bytes_of {H : Type} {enc : TypeId × Value → H} {W : World} {base' : Nat} {spare : Nat → Bool} {held : Bool} {fuel : Nat} {L : List Value} {x : DataW H × List MemPlace} (hf : DataW.trod enc Try.prog W base' spare held fuel 23 L = some x) :
    ∃ ks : List Nat, Bytes ks ∧ ∀ (j : Nat) (v : Value), (cs8 ks)[j]? = some v → L[j]? = some v := by
  obtain ⟨xs, m, _, _, _, hl, hel⟩ := DataW.trod_array Try.underlying23 hf
  rw [show Try.prog.cellsOf 5 = 1 by kernel_rfl] at hel
  have key : ∀ i, i < 32 → ∃ n : Nat, L[i]? = some (.int .u8 (n : Int)) ∧ n < 256 := fun i hi => by
    have h1 := hel i hi
    have h2 : xs[i]? = some (xs[i]'(by omega)) := by simp
    rw [h2] at h1
    obtain ⟨n, e, _, wf⟩ := DataW.trod_int Try.underlying5 h1
    obtain ⟨b0, b1⟩ := bounds_u8 wf
    obtain ⟨k, rfl⟩ := Int.eq_ofNat_of_zero_le b0
    refine ⟨k, ?_, by omega⟩
    rw [Nat.mul_one] at e
    have h3 := congrArg (fun l => l[0]?) e
    simpa using h3
  have hk : ∃ f : Nat → Nat, ∀ i, i < 32 → L[i]? = some (.int .u8 (f i : Int)) ∧ f i < 256 :=
    ⟨fun i => if h : i < 32 then (key i h).choose else 0, fun i hi => by simp only [hi, dif_pos]; exact (key i hi).choose_spec⟩
  obtain ⟨f, hf⟩ := hk
  refine ⟨(List.range 32).map f, ⟨by simp, fun i => ?_⟩, fun j v hv => ?_⟩
  · rcases Nat.lt_or_ge i 32 with h | h
    · simp [h]; exact (hf i h).2
    · simp [h]
  · rcases Nat.lt_or_ge j 32 with h | h
    · rw [(hf j h).1, ← hv, cs8_get _ _ (by simpa using h)]; simp [h]
    · rw [Array.getElem?_eq_none (by simp [cs8]; exact h)] at hv; cases hv

/-- The parameter that comes in: two keys, a number of 64 bits, an int. -/
theorem open_clamps {H : Type} {enc : TypeId × Value → H} {W : World} {r : Reach} {base base' : Nat} {spare : Nat → Bool} {held : Bool} {v : Value} {d : DataW H} {p : List MemPlace} (hv : Value.okWide Try.prog W r base 36 v) (h : DataW.Trod enc Try.prog W base' spare held 36 v d p) :
    ∃ (cp : Array Value) (ka kb : List Nat) (n wh : Nat), v = .agg cp ∧ Bytes ka ∧ Bytes kb ∧ n < 256 ∧ wh < 256 ∧
      (∀ j v, (cs8 ka)[j]? = some v → cp[0 + j]? = some v) ∧ (∀ j v, (cs8 kb)[j]? = some v → cp[32 + j]? = some v) ∧ cp[64]? = some (.int .u8 (n : Nat)) ∧ cp[65]? = some (.int .u8 (wh : Nat)) := by
  have hv' : ∃ cs, v = .agg cs := by
    simp only [Value.okWide, Try.underlying36] at hv
    obtain ⟨cs, h1, _⟩ := hv
    exact ⟨cs, h1⟩
  obtain ⟨cs, rfl⟩ := hv'
  obtain ⟨fuel, hf⟩ := h
  obtain ⟨xs, m, _, _, hl, hlen, hel⟩ := DataW.trod_struct Try.underlying36 hf
  have hx : xs.length = 4 := hlen
  have e0 : DataW.trod enc Try.prog W base' spare held m 23 (List.take (Try.prog.cellsOf 23) (List.drop 0 (Value.agg cs).cells.toList)) = xs[0]? := hel 0 _ rfl
  rw [show Try.prog.cellsOf 23 = 32 by kernel_rfl] at e0
  have e1 : DataW.trod enc Try.prog W base' spare held m 23 (List.take (Try.prog.cellsOf 23) (List.drop 32 (Value.agg cs).cells.toList)) = xs[1]? := hel 1 _ rfl
  rw [show Try.prog.cellsOf 23 = 32 by kernel_rfl] at e1
  have e2 : DataW.trod enc Try.prog W base' spare held m 5 (List.take (Try.prog.cellsOf 5) (List.drop 64 (Value.agg cs).cells.toList)) = xs[2]? := hel 2 _ rfl
  rw [show Try.prog.cellsOf 5 = 1 by kernel_rfl] at e2
  have e3 : DataW.trod enc Try.prog W base' spare held m 5 (List.take (Try.prog.cellsOf 5) (List.drop 65 (Value.agg cs).cells.toList)) = xs[3]? := hel 3 _ rfl
  rw [show Try.prog.cellsOf 5 = 1 by kernel_rfl] at e3
  have g : ∀ i, i < 4 → xs[i]? = some (xs[i]?.getD (.agg [], [])) := fun i hi => by simp [hx, hi]
  rw [g 0 (by omega)] at e0
  rw [g 1 (by omega)] at e1
  rw [g 2 (by omega)] at e2
  rw [g 3 (by omega)] at e3
  obtain ⟨ka, ba, pa⟩ := bytes_of e0
  obtain ⟨kb, bb, pb⟩ := bytes_of e1
  obtain ⟨n, en, _, wn⟩ := DataW.trod_int Try.underlying5 e2
  obtain ⟨wh, ew, _, ww⟩ := DataW.trod_int Try.underlying5 e3
  have bn := bounds_u8 wn
  have bw := bounds_u8 ww
  obtain ⟨k, rfl⟩ := Int.eq_ofNat_of_zero_le bn.1
  obtain ⟨kw, rfl⟩ := Int.eq_ofNat_of_zero_le bw.1
  refine ⟨cs, ka, kb, k, kw, rfl, ba, bb, by have := bn.2; omega, by have := bw.2; omega, fun j v hv => ?_, fun j v hv => ?_, ?_, ?_⟩
  · have := pa j v hv
    have hj : j < 32 := by
      rcases Nat.lt_or_ge j 32 with h | h
      · exact h
      · rw [List.getElem?_eq_none (by simp; omega)] at this; cases this
    simpa [List.getElem?_take, hj, Value.cells] using this
  · have := pb j v hv
    have hj : j < 32 := by
      rcases Nat.lt_or_ge j 32 with h | h
      · exact h
      · rw [List.getElem?_eq_none (by simp; omega)] at this; cases this
    simpa [List.getElem?_take, hj, Value.cells] using this
  · have h3 := congrArg (fun l => l[0]?) en
    simpa [Value.cells] using h3
  · have h3 := congrArg (fun l => l[0]?) ew
    simpa [Value.cells] using h3


set_option maxRecDepth 100000 in
theorem clamps_lifted (os : Os) (started : os.Started) (H : Type) (enc : TypeId × Value → H) :
    ReturnsInHanded {} Try.checked os 6 .any (Rows.curveClampsSpec.pre6 enc Try.prog Try.f6 Rows.curveClampsRow.domain false) (Rows.curveClampsSpec.post enc Try.prog Try.f6 false true false false) := by
  refine returnsInHanded_of_change (C := Try.checked) Try.own started (by kernel_rfl) Try.func6
    (ChangeSpec.witness6 (enc := enc) (C := Try.checked) false ⟨#[], #[.agg (cs8 (List.replicate 66 0))], []⟩ 8 (by kernel_rfl) (by kernel_rfl) (by kernel_rfl) (by kernel_rfl)) ?_
  intro W base args ds gs before hval0 hW hcnd _
  have hval : ∀ (j : Nat) t v, Try.f6.params[j]? = some t → args[j]? = some v → Value.okWide Try.prog W .any base t v := hval0
  have hW' := hW
  obtain ⟨p, q, hA0, hV, rfl, hfz, hnd⟩ := hW
  have hA : DataW.TrodAll enc Try.prog W 0 (fun _ => true) true Try.f6.params.toList args.toList ds p := hA0
  rw [Try.params6] at hA hval
  obtain ⟨v0, d0, rfl, rfl, h0⟩ := trodAll_one hA
  obtain ⟨rfl, rfl⟩ := trodVars_none hV
  obtain ⟨cp, ka, kb, n, wh, rfl, ba, bb, hn, hw, p1, p2, pn, ph⟩ := open_clamps (hval 0 36 v0 rfl rfl) h0
  refine (clamps_any cp ka kb n wh ba bb hn hw p1 p2 pn ph W).mono fun e W' ⟨he, hb⟩ => ?_
  subst he
  exact ⟨_, rfl, post_true Try.laidOut (by rw [Try.params6]; decide +kernel) rfl hW' rfl rfl rfl rfl Try.underlying4 hb⟩

theorem curveClamps_holds : Rows.CurveClampsSaid :=
  OpenClaim.holds_of_wide 6 Try.f6 rfl rfl rfl rfl rfl rfl rfl ⟨rfl, rfl, rfl, rfl, rfl⟩ rfl rfl rfl rfl rfl (by kernel_rfl) Try.func6 (by kernel_rfl)
    (of_decide_eq_true (by kernel_rfl)) (by unfold Func.isWrapper; first | (rw [if_pos (by decide +kernel)]; kernel_rfl) | (rw [if_neg (by decide +kernel)]; exact ⟨rfl, rfl⟩))
    (fun os started H enc _ => clamps_lifted os started H enc)
#print axioms curveClamps_holds
end Go.Proofs.Ytfciodbgjljjhaa
