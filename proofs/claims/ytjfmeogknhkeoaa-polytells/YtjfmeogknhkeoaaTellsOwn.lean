/- PolyTells, for every key and every row of texts: the tag that Sum of package poly makes of texts of at most 400 bytes together is the one that the answer of the document says, and the row of texts is as it was: the law returns true, and nothing that was there has turned; no condition. -/
import Derived.Test.YtjfmeogknhkeoaaTells
import Derived.Test.YtjfmeogknhkeoaaLift
import Derived.SizedLaws
import Derived.SliceStrings
namespace Go.Proofs.Ytjfmeogknhkeoaa
open Go.ChangeShapes Go.WideShapes Go.ChangeAt Go.RowKit

/-- A row of strings that comes in. -/
theorem strs_open {H : Type} {enc : TypeId × Value → H} {W : World} {r : Reach} {base base' : Nat} {spare : Nat → Bool} {held : Bool} {v : Value} {d : DataW H} {p : List MemPlace} (hv : Value.okWide Try.prog W r base 24 v) (h : DataW.Trod enc Try.prog W base' spare held 24 v d p) :
    (∃ q c, v = .slice q 0 c) ∨ ∃ (Ps : List (List Nat)) (pb off cap T9 : Nat) (fr : Nat × Nat) (cs : Array Value) (el sp : List (DataW H)), v = .slice (some ⟨pb, off, none⟩) Ps.length cap ∧ 0 < Ps.length ∧ (∀ X ∈ Ps, ∀ i, X.getD i 0 < 256) ∧ d = .slice el sp ∧ el.length = Ps.length ∧
      W.heap[pb]? = some (.cells cs T9 fr) ∧ ∀ j, j < Ps.length → cs[off + j]? = some (.string (bs (Ps.getD j []))) := by
  obtain ⟨q, n, c, rfl⟩ := okWide_slice Try.underlying24 hv
  obtain ⟨fuel, hf⟩ := h
  rcases Go.ChangeShapes.open_strings Try.underlying24 Try.underlying9 (by kernel_rfl) hf with ⟨e, _⟩ | ⟨a, len, cap, ss, e, hb, hl, hm, hss, hx, hcell, hmax⟩
  · have e' : Value.slice q n c = .slice none 0 0 := by simpa [Value.cells] using e
    cases e'
    exact .inl ⟨none, 0, rfl⟩
  · have e' : Value.slice q n c = .slice (some a) len cap := by simpa [Value.cells] using e
    cases e'
    rcases Nat.eq_zero_or_pos n with rfl | hn
    · exact .inl ⟨_, _, rfl⟩
    · right
      have hle : n ≤ ss.length := by rw [hss]; split <;> omega
      have h0 := hcell 0 (by omega)
      rw [show a.add 0 = a from rfl] at h0
      have hsp : a.spot = none ∧ ∃ cs T9 fr, W.heap[a.block]? = some (.cells cs T9 fr) := by
        unfold World.cell? at h0
        split at h0
        · rename_i cs T9 fr hblk
          split at h0
          · cases h0
          · rename_i hs
            exact ⟨by cases hq : a.spot with | none => rfl | some x => (rw [hq] at hs; simp at hs), cs, T9, fr, hblk⟩
        · cases h0
      obtain ⟨hs, cs, T9, fr, hblk⟩ := hsp
      obtain ⟨ab, ao, asp⟩ := a
      simp only at hs hblk
      subst hs
      have hlen : ((ss.take n).map nl).length = n := by simp; omega
      refine ⟨(ss.take n).map nl, ab, ao, c, T9, fr, cs, _, _, by rw [hlen], by omega, fun X hX => ?_, (Prod.mk.inj hx).1, by simp [strs], hblk, fun j hj => ?_⟩
      · obtain ⟨s, _, rfl⟩ := List.mem_map.1 hX
        exact nl_lt s
      · rw [hlen] at hj
        have := hcell j (by omega)
        rw [add_off, cell_of hblk] at this
        rw [this]
        congr 1
        rw [List.getD_eq_getElem?_getD, List.getD_eq_getElem?_getD, List.getElem?_map, List.getElem?_take, if_pos hj, List.getElem?_eq_getElem (show j < ss.length by omega)]
        simp [bs_nl]
set_option maxRecDepth 100000 in
theorem tells_lifted (os : Os) (started : os.Started) (H : Type) (enc : TypeId × Value → H) :
    ReturnsInHanded {} Try.checked os 3 .any (Rows.polyTellsSpec.pre6 enc Try.prog Try.f3 Rows.polyTellsRow.domain false) (Rows.polyTellsSpec.post enc Try.prog Try.f3 false true false false) := by
  refine returnsInHanded_of_change_sized (C := Try.checked) Try.own started (by kernel_rfl) Try.func3
    (ChangeSpec.witness6 (enc := enc) (C := Try.checked) false ⟨#[], #[.agg (cn .u8 (List.replicate 32 0)), .slice none 0 0], []⟩ 8 (by kernel_rfl) (by kernel_rfl) (by kernel_rfl) (by kernel_rfl)) ?_
  intro W base args ds gs before hval0 hW hcnd hsz0 _
  have hval : ∀ (j : Nat) t v, Try.f3.params[j]? = some t → args[j]? = some v → Value.okWide Try.prog W .any base t v := hval0
  have hW' := hW
  obtain ⟨p, q, hA0, hV, rfl, hfz, hnd⟩ := hW
  have hA : DataW.TrodAll enc Try.prog W 0 (fun _ => true) true Try.f3.params.toList args.toList ds p := hA0
  have hsz : (DataW.weightsEach Try.prog (Try.f3.params.toList ++ Rows.polyTellsSpec.plain.varTypes Try.prog) (ds ++ gs)).all (· ≤ reachBytes) = true := hsz0
  rw [Try.params3] at hA hval hsz
  obtain ⟨v0, v1, d0, d1, p0, p1, rfl, rfl, rfl, h0_, h1_⟩ := trodAll_two hA
  obtain ⟨rfl, rfl⟩ := trodVars_none hV
  obtain ⟨K, hK, rfl⟩ := open_bytes Try.underlying23 Try.underlying5 (by kernel_rfl) (by kernel_rfl) (hval 0 23 v0 rfl rfl) h0_
  skip
  rcases strs_open (hval 1 24 v1 rfl rfl) h1_ with ⟨q, c, rfl⟩ | ⟨Ps, pb, off, cap, T9, fr, cs, el, sp, rfl, hne, hP, rfl, hel, hblk, hp⟩
  · skip
    refine (tells_empty K hK q c W).mono fun e W' ⟨he, hb⟩ => ?_
    subst he
    exact ⟨_, rfl, post_true Try.laidOut (by rw [Try.params3]; decide +kernel) rfl hW' rfl rfl rfl rfl Try.underlying4 hb⟩
  · have hs1 := sized_slice hsz (j := 1) (t := 24) (e := 9) rfl rfl Try.underlying24
    rw [show Try.prog.bytesOf 9 = 16 by kernel_rfl, hel] at hs1
    have hs2 : Ps.length * 16 ≤ 140737488351232 := by unfold reachBytes at hs1; omega
    by_cases hL : Ps.flatten.length > 400
    · skip
      refine (tells_long K hK Ps hP (by omega) pb off cap T9 fr cs hp hL W hblk).mono fun e W' ⟨he, hb⟩ => ?_
      subst he
      exact ⟨_, rfl, post_true Try.laidOut (by rw [Try.params3]; decide +kernel) rfl hW' rfl rfl rfl rfl Try.underlying4 hb⟩
    · skip
      refine (tells_short K hK Ps hP (by omega) pb off cap T9 fr cs hp hne (by omega) hL W hblk).mono fun e W' ⟨he, hb⟩ => ?_
      subst he
      exact ⟨_, rfl, post_true Try.laidOut (by rw [Try.params3]; decide +kernel) rfl hW' rfl rfl rfl rfl Try.underlying4 hb⟩

theorem polyTells_holds : Rows.PolyTellsSaid :=
  OpenClaim.holds_of_wide 3 Try.f3 rfl rfl rfl rfl rfl rfl rfl ⟨rfl, rfl, rfl, rfl, rfl⟩ rfl rfl rfl rfl rfl (by kernel_rfl) Try.func3 (by kernel_rfl)
    (of_decide_eq_true (by kernel_rfl)) (by unfold Func.isWrapper; first | (rw [if_pos (by decide +kernel)]; kernel_rfl) | (rw [if_neg (by decide +kernel)]; exact ⟨rfl, rfl⟩))
    (fun os started H enc _ => tells_lifted os started H enc)
#print axioms polyTells_holds

end Go.Proofs.Ytjfmeogknhkeoaa
