/- ShaTells, for every row of texts: the digest that Sum of package sha makes of texts of at most 500 bytes together is the one that the answer of the document says, and the row of texts is as it was: the law returns true, and nothing that was there has turned. Condition: the table of package sha holds what the text of the program lays there (tied). -/
import Derived.Test.YthjbbbjdpoggiaaDoorTells6
import Derived.Test.YthjbbbjdpoggiaaDoorLift
import Derived.Test.YthjbbbjdpoggiaaDoorLaid
import Derived.Test.YthjbbbjdpoggiaaDoorCards
import Derived.Test.YthjbbbjdpoggiaaDoorTie
import Derived.ChangeMaps5
import Derived.SevenTiedAt
import Derived.SizedLaws
import Derived.SliceStrings
namespace Go.Proofs.YthjbbbjdpoggiaaDoor
open Go.ChangeShapes Go.WideShapes Go.ChangeAt Go.RowKit

theorem shatells_door (os : Os) (args : Array Value) : laidMetH Tryd.prog [("billet/sha.constants", Rows.laid_billet_sha_constants)] ((World.doorLaid Tryd.prog 400 os).forCall (fun _ _ => 0) ⟨#[], args, []⟩).memory :=
  laidMetH_of_parts3 (fuel := 8) (laidMet_of_run' 8 (by kernel_rfl) (by kernel_rfl)) (by kernel_rfl) (by kernel_rfl)
/-- A row of strings that comes in. -/
theorem strs_open {H : Type} {enc : TypeId × Value → H} {W : World} {r : Reach} {base base' : Nat} {spare : Nat → Bool} {held : Bool} {v : Value} {d : DataW H} {p : List MemPlace} (hv : Value.okWide Tryd.prog W r base 22 v) (h : DataW.Trod enc Tryd.prog W base' spare held 22 v d p) :
    (∃ q c, v = .slice q 0 c) ∨ ∃ (Ps : List (List Nat)) (pb off cap T9 : Nat) (fr : Nat × Nat) (cs : Array Value) (el sp : List (DataW H)), v = .slice (some ⟨pb, off, none⟩) Ps.length cap ∧ 0 < Ps.length ∧ (∀ X ∈ Ps, ∀ i, X.getD i 0 < 256) ∧ d = .slice el sp ∧ el.length = Ps.length ∧
      W.heap[pb]? = some (.cells cs T9 fr) ∧ ∀ j, j < Ps.length → cs[off + j]? = some (.string (bs (Ps.getD j []))) := by
  obtain ⟨q, n, c, rfl⟩ := okWide_slice Tryd.underlying22 hv
  obtain ⟨fuel, hf⟩ := h
  rcases Go.ChangeShapes.open_strings Tryd.underlying22 Tryd.underlying9 (by kernel_rfl) hf with ⟨e, _⟩ | ⟨a, len, cap, ss, e, hb, hl, hm, hss, hx, hcell, hmax⟩
  · have e' : Value.slice q n c = .slice none 0 0 := by simpa [Value.cells] using e
    cases e'
    exact .inl ⟨none, 0, rfl⟩
  · have e' : Value.slice q n c = .slice (some a) len cap := by simpa [Value.cells] using e
    cases e'
    rcases Nat.eq_zero_or_pos n with rfl | hn
    · exact .inl ⟨_, _, rfl⟩
    · right
      have hle : n ≤ ss.length := by rw [hss]; split <;> omega
      have h0 := hcell 0 (by omega)
      rw [show a.add 0 = a from rfl] at h0
      have hsp : a.spot = none ∧ ∃ cs T9 fr, W.heap[a.block]? = some (.cells cs T9 fr) := by
        unfold World.cell? at h0
        split at h0
        · rename_i cs T9 fr hblk
          split at h0
          · cases h0
          · rename_i hs
            exact ⟨by cases hq : a.spot with | none => rfl | some x => (rw [hq] at hs; simp at hs), cs, T9, fr, hblk⟩
        · cases h0
      obtain ⟨hs, cs, T9, fr, hblk⟩ := hsp
      obtain ⟨ab, ao, asp⟩ := a
      simp only at hs hblk
      subst hs
      have hlen : ((ss.take n).map nl).length = n := by simp; omega
      refine ⟨(ss.take n).map nl, ab, ao, c, T9, fr, cs, _, _, by rw [hlen], by omega, fun X hX => ?_, (Prod.mk.inj hx).1, by simp [strs], hblk, fun j hj => ?_⟩
      · obtain ⟨s, _, rfl⟩ := List.mem_map.1 hX
        exact nl_lt s
      · rw [hlen] at hj
        have := hcell j (by omega)
        rw [add_off, cell_of hblk] at this
        rw [this]
        congr 1
        rw [List.getD_eq_getElem?_getD, List.getD_eq_getElem?_getD, List.getElem?_map, List.getElem?_take, if_pos hj, List.getElem?_eq_getElem (show j < ss.length by omega)]
        simp [bs_nl]
set_option maxRecDepth 100000 in
theorem shatells_lifted (os : Os) (started : os.Started) (H : Type) (enc : TypeId × Value → H) :
    ReturnsInHanded {} Tryd.checked os 3 .any (fun w args => (Rows.shaTellsSpec.pre enc Tryd.prog Tryd.f3 [] false w args ∧ laidMetH Tryd.prog [("billet/sha.constants", Rows.laid_billet_sha_constants)] w) ∧ sizedMet enc Tryd.prog Tryd.f3 (OpenSpec.ofChange Rows.shaTellsSpec) false w args) (Rows.shaTellsSpec.post enc Tryd.prog Tryd.f3 false true false false) := by
  refine returnsInHanded_of_change_and (C := Tryd.checked) (X := fun w _ => laidMetH Tryd.prog [("billet/sha.constants", Rows.laid_billet_sha_constants)] w) (fun _ _ _ hh h => h.of_heap hh) Tryd.own started (by kernel_rfl) Tryd.func3
    (ChangeSpec.witness_shaped (enc := enc) (C := Tryd.checked) (os := os) (X := fun w _ => laidMetH Tryd.prog [("billet/sha.constants", Rows.laid_billet_sha_constants)] w) false (World.doorLaid Tryd.prog 400 os) #[.slice none 0 0] 8 rfl (World.shaped_of_RefB (by kernel_rfl) (by kernel_rfl)) (by kernel_rfl) (by kernel_rfl) (by kernel_rfl) (shatells_door os _)) ?_
  intro W base args ds gs before hval0 hW _ hsz0 hL _
  have hval : ∀ (j : Nat) t v, Tryd.f3.params[j]? = some t → args[j]? = some v → Value.okWide Tryd.prog W .any base t v := hval0
  have hW' := hW
  obtain ⟨p, q, hA0, hV, rfl, hfz, hnd⟩ := hW
  have hA : DataW.TrodAll enc Tryd.prog W 0 (fun _ => true) true Tryd.f3.params.toList args.toList ds p := hA0
  have hsz : (DataW.weightsEach Tryd.prog (Tryd.f3.params.toList ++ Rows.shaTellsSpec.plain.varTypes Tryd.prog) (ds ++ gs)).all (· ≤ reachBytes) = true := hsz0
  rw [Tryd.params3] at hA hval hsz
  obtain ⟨v0, d0, rfl, rfl, h0_⟩ := trodAll_one hA
  obtain ⟨rfl, rfl⟩ := trodVars_none hV
  obtain ⟨Tg, fg, hg⟩ := tab_of hL (by kernel_rfl) (List.mem_singleton.2 rfl) (g := 0) (t := 48) (e := 34) (K := kTab) (by kernel_rfl) (by kernel_rfl) Tryd.underlying48 Tryd.underlying34 (by kernel_rfl) (by kernel_rfl) (by kernel_rfl) (by kernel_rfl)
  skip
  rcases strs_open (hval 0 22 v0 rfl rfl) h0_ with ⟨q, c, rfl⟩ | ⟨Ps, pb, off, cap, T9, fr, cs, el, sp, rfl, hne, hP, rfl, hel, hblk, hp⟩
  · skip
    refine (shatells_empty Tg fg q c W hg).mono fun e W' ⟨he, hb⟩ => ?_
    subst he
    exact ⟨_, rfl, post_true Tryd.laidOut (by rw [Tryd.params3]; decide +kernel) rfl hW' rfl rfl rfl rfl Tryd.underlying4 hb⟩
  · have hs1 := sized_slice hsz (j := 0) (t := 22) (e := 9) rfl rfl Tryd.underlying22
    rw [show Tryd.prog.bytesOf 9 = 16 by kernel_rfl, hel] at hs1
    have hs2 : Ps.length * 16 ≤ 140737488351232 := by unfold reachBytes at hs1; omega
    have hD : Distinct [(0, Obj.cells (cn .u32 kTab) Tg fg), (pb, .cells cs T9 fr)] := ⟨fun y hy => (by
      obtain rfl := List.mem_singleton.1 hy
      intro e
      have e : pb = 0 := by simpa using e
      subst e
      rw [hg] at hblk
      have e3 : cn .u32 kTab = cs := by injection (Option.some.inj hblk)
      have := hp 0 hne
      rw [← e3] at this
      exact ktab_int _ _ this _ rfl), fun y hy => (nomatch hy), trivial⟩
    have hH : Has W [(0, Obj.cells (cn .u32 kTab) Tg fg), (pb, .cells cs T9 fr)] := fun i x hx => by
      match i, hx with
      | 0, hx => cases hx; exact hg
      | 1, hx => cases hx; exact hblk
      | i + 2, hx => simp at hx
    by_cases hL2 : Ps.flatten.length > 500
    · skip
      refine (shatells_long Tg fg Ps hP (by omega) pb off cap T9 fr cs hp hD hL2 W hH).mono fun e W' ⟨he, hb⟩ => ?_
      subst he
      exact ⟨_, rfl, post_true Tryd.laidOut (by rw [Tryd.params3]; decide +kernel) rfl hW' rfl rfl rfl rfl Tryd.underlying4 hb⟩
    · skip
      refine (shatells_short Tg fg Ps hP (by omega) pb off cap T9 fr cs hp hD hne (by omega) hL2 W hH).mono fun e W' ⟨he, hb⟩ => ?_
      subst he
      exact ⟨_, rfl, post_true Tryd.laidOut (by rw [Tryd.params3]; decide +kernel) rfl hW' rfl rfl rfl rfl Tryd.underlying4 hb⟩

theorem shatells_row : Rows.ShaTellsSaid :=
  OpenClaim.holds_of_wide 3 Tryd.f3 rfl rfl rfl rfl rfl rfl rfl ⟨rfl, rfl, rfl, rfl, rfl⟩ rfl rfl rfl rfl rfl (by kernel_rfl) Tryd.func3 (by kernel_rfl)
    (of_decide_eq_true (by kernel_rfl)) (by unfold Func.isWrapper; first | (rw [if_pos (by decide +kernel)]; kernel_rfl) | (rw [if_neg (by decide +kernel)]; exact ⟨rfl, rfl⟩))
    (fun os started H enc _ => shatells_lifted os started H enc)
theorem shaTells_holds : Rows.ShaTellsCardSaid :=
  Claim7.holds_tied_plain_at .later [] [.data] true (true, "98875af637bb5f0a94dacc6919ee6ae9f218c93c8711d6dcec379a09a21211ed") false
    shatells_row (fun _ h => by cases h) (by kernel_rfl) (fun _ h => by cases h) shaTells_row_tie rfl ⟨rfl, rfl⟩ (by kernel_rfl) rfl
    (fun f fn hf hfn => by
      obtain rfl : f = 3 := Option.some.inj ((show Tryd.prog.funcNamed "billet/billetlaw06.ShaTells" = some 3 by kernel_rfl).symm.trans hf) |>.symm
      obtain rfl : fn = Tryd.f3 := (Option.some.inj (Tryd.func3.symm.trans hfn)).symm
      exact ⟨by kernel_rfl, fun j t ht => by
        rw [Tryd.params3] at ht
        have hm : t ∈ [22] := by simpa using Array.mem_of_getElem? ht
        have hall : ([22].all fun u => !Tryd.prog.wantsStandIn u) = true := by kernel_rfl
        exact (show Tryd.prog.wantsStandIn t = false by simpa using List.all_eq_true.1 hall t hm)⟩)
    (by kernel_rfl)
#print axioms shaTells_holds

end Go.Proofs.YthjbbbjdpoggiaaDoor
