/- PolyOnes, for every row of blocks and every five marks: with the key whose first half is 1 and whose last half is noughts, the tag that Sum of package poly makes of at most 12 blocks is their sum modulo 2^130 - 5, its lowest 16 bytes: the law returns true, and nothing that was there has turned; no condition. -/
import Derived.Test.YtjfmeogknhkeoaaOnes
import Derived.Test.YtjfmeogknhkeoaaLift
import Derived.ChangeMaps5
namespace Go.Proofs.Ytjfmeogknhkeoaa
open Go.ChangeShapes Go.WideShapes Go.ChangeAt Go.RowKit

/-- A row of arrays of bytes that comes in. -/
theorem rows_open {H : Type} {enc : TypeId × Value → H} {W : World} {r : Reach} {base base' : Nat} {spare : Nat → Bool} {held : Bool} {v : Value} {d : DataW H} {p : List MemPlace} (hv : Value.okWide Try.prog W r base 36 v) (h : DataW.Trod enc Try.prog W base' spare held 36 v d p) :
    (∃ q c, v = .slice q 0 c) ∨ ∃ (n pb off cap T9 : Nat) (fr : Nat × Nat) (cs : Array Value), v = .slice (some ⟨pb, off, none⟩) n cap ∧ 0 < n ∧
      W.heap[pb]? = some (.cells cs T9 fr) ∧ ∀ j, j < n → ∃ B : List Nat, Bytes 16 B ∧ PartAt cs (off + j * 16) (cn .u8 B) := by
  obtain ⟨q, n, c, rfl⟩ := okWide_slice Try.underlying36 hv
  obtain ⟨fuel, hf⟩ := h
  rcases DataW.trod_slice Try.underlying36 hf with ⟨e, _⟩ | ⟨a, len, cap, elems, rest, m, _, e, _, hb, hl, hm, hlen, hel, _, _⟩
  · have e' : Value.slice q n c = .slice none 0 0 := by simpa [Value.cells] using e
    cases e'
    exact .inl ⟨none, 0, rfl⟩
  · have e' : Value.slice q n c = .slice (some a) len cap := by simpa [Value.cells] using e
    cases e'
    rcases Nat.eq_zero_or_pos n with rfl | hn
    · exact .inl ⟨_, _, rfl⟩
    · right
      rw [show Try.prog.cellsOf 27 = 16 by kernel_rfl] at hel
      have key : ∀ j, j < n → ∃ B : List Nat, Bytes 16 B ∧ ∀ (i : Nat) (v : Value), (cn .u8 B)[i]? = some v → W.cell? ((a.add (j * 16)).add i) = some v := fun j hj => by
        have h1 := hel j hj
        rw [List.getElem?_eq_getElem (by omega)] at h1
        obtain ⟨L, hL1, hL2⟩ := Option.bind_eq_some_iff.1 h1
        obtain ⟨B, hB, hP⟩ := bytes_in Try.underlying27 Try.underlying5 (by kernel_rfl) hL2
        obtain ⟨_, _, hc⟩ := World.cells?_some hL1
        refine ⟨B, hB, fun i v hv => ?_⟩
        have hi : i < 16 := by
          rcases Nat.lt_or_ge i 16 with h | h
          · exact h
          · rw [Array.getElem?_eq_none (by rw [cn_size, hB.len]; exact h)] at hv; cases hv
        rw [hc i hi, hP i v hv]
      obtain ⟨B0, hB0, hk0⟩ := key 0 hn
      have h0 := hk0 0 _ (cn_get _ _ _ (by rw [hB0.len]; decide))
      rw [show (a.add (0 * 16)).add 0 = a from rfl] at h0
      have hsp : a.spot = none ∧ ∃ cs T9 fr, W.heap[a.block]? = some (.cells cs T9 fr) := by
        unfold World.cell? at h0
        split at h0
        · rename_i cs T9 fr hblk
          split at h0
          · cases h0
          · rename_i hs
            exact ⟨by cases hq : a.spot with | none => rfl | some x => (rw [hq] at hs; simp at hs), cs, T9, fr, hblk⟩
        · cases h0
      obtain ⟨hs, cs, T9, fr, hblk⟩ := hsp
      obtain ⟨ab, ao, asp⟩ := a
      simp only at hs hblk
      subst hs
      refine ⟨n, ab, ao, c, T9, fr, cs, rfl, hn, hblk, fun j hj => ?_⟩
      obtain ⟨B, hB, hk⟩ := key j hj
      refine ⟨B, hB, fun i v hv => ?_⟩
      have := hk i v hv
      rw [add_off, add_off, cell_of hblk] at this
      exact this
set_option maxRecDepth 100000 in
theorem ones_lifted (os : Os) (started : os.Started) (H : Type) (enc : TypeId × Value → H) :
    ReturnsInHanded {} Try.checked os 5 .any (Rows.polyOnesSpec.pre6 enc Try.prog Try.f5 Rows.polyOnesRow.domain false) (Rows.polyOnesSpec.post enc Try.prog Try.f5 false true false false) := by
  refine returnsInHanded_of_change (C := Try.checked) Try.own started (by kernel_rfl) Try.func5
    (ChangeSpec.witness6 (enc := enc) (C := Try.checked) false ⟨#[], #[.slice none 0 0, .agg (cn .u8 (List.replicate 5 0))], []⟩ 8 (by kernel_rfl) (by kernel_rfl) (by kernel_rfl) (by kernel_rfl)) ?_
  intro W base args ds gs before hval0 hW hcnd _
  have hval : ∀ (j : Nat) t v, Try.f5.params[j]? = some t → args[j]? = some v → Value.okWide Try.prog W .any base t v := hval0
  have hW' := hW
  obtain ⟨p, q, hA0, hV, rfl, hfz, hnd⟩ := hW
  have hA : DataW.TrodAll enc Try.prog W 0 (fun _ => true) true Try.f5.params.toList args.toList ds p := hA0
  rw [Try.params5] at hA hval
  obtain ⟨v0, v1, d0, d1, p0, p1, rfl, rfl, rfl, h0_, h1_⟩ := trodAll_two hA
  obtain ⟨rfl, rfl⟩ := trodVars_none hV
  skip
  obtain ⟨Lo, hL, rfl⟩ := open_bytes Try.underlying37 Try.underlying5 (by kernel_rfl) (by kernel_rfl) (hval 1 37 v1 rfl rfl) h1_
  rcases rows_open (hval 0 36 v0 rfl rfl) h0_ with ⟨q, c, rfl⟩ | ⟨n, pb, off, cap, T9, fr, cs, rfl, hne, hblk, hp⟩
  · skip
    refine (ones_empty Lo hL q c W).mono fun e W' ⟨he, hb⟩ => ?_
    subst he
    exact ⟨_, rfl, post_true Try.laidOut (by rw [Try.params5]; decide +kernel) rfl hW' rfl rfl rfl rfl Try.underlying4 hb⟩
  · by_cases hn : n > 12
    · skip
      refine (ones_long Lo hL n pb off cap T9 fr cs hn W hblk).mono fun e W' ⟨he, hb⟩ => ?_
      subst he
      exact ⟨_, rfl, post_true Try.laidOut (by rw [Try.params5]; decide +kernel) rfl hW' rfl rfl rfl rfl Try.underlying4 hb⟩
    · skip
      refine (ones_short Lo hL n pb off cap T9 fr cs hn hp W hblk).mono fun e W' ⟨he, hb⟩ => ?_
      subst he
      exact ⟨_, rfl, post_true Try.laidOut (by rw [Try.params5]; decide +kernel) rfl hW' rfl rfl rfl rfl Try.underlying4 hb⟩

theorem polyOnes_holds : Rows.PolyOnesSaid :=
  OpenClaim.holds_of_wide 5 Try.f5 rfl rfl rfl rfl rfl rfl rfl ⟨rfl, rfl, rfl, rfl, rfl⟩ rfl rfl rfl rfl rfl (by kernel_rfl) Try.func5 (by kernel_rfl)
    (of_decide_eq_true (by kernel_rfl)) (by unfold Func.isWrapper; first | (rw [if_pos (by decide +kernel)]; kernel_rfl) | (rw [if_neg (by decide +kernel)]; exact ⟨rfl, rfl⟩))
    (fun os started H enc _ => ones_lifted os started H enc)
#print axioms polyOnes_holds

end Go.Proofs.Ytjfmeogknhkeoaa
