/- DeriveNonces, for every two pairs of a number and a round: two nonces of package derive are one just if both are, and so are the bytes of rounds: the law returns true, and nothing that was there has turned. Condition: the table of package sha holds what the text of the program lays there (tied). -/
import Derived.Test.YtkpindnekaijfaaDoorNonces7
import Derived.Test.YtkpindnekaijfaaDoorLift
import Derived.Test.YtkpindnekaijfaaDoorOpenS
import Derived.Test.YtkpindnekaijfaaDoorLaid
import Derived.Test.YtkpindnekaijfaaDoorCards
import Derived.Test.YtkpindnekaijfaaDoorTie
import Derived.ChangeMaps5
import Derived.SevenTiedAt
import Derived.SizedLaws
import Derived.SliceStrings
namespace Go.Proofs.YtkpindnekaijfaaDoor
open Go.ChangeShapes Go.WideShapes Go.ChangeAt Go.RowKit

theorem derivenonces_door (os : Os) (args : Array Value) : laidMetH Tryd.prog [("billet/sha.constants", Rows.laid_billet_sha_constants)] ((World.doorLaid Tryd.prog 400 os).forCall (fun _ _ => 0) ⟨#[], args, []⟩).memory :=
  laidMetH_of_parts3 (fuel := 8) (laidMet_of_run' 8 (by kernel_rfl) (by kernel_rfl)) (by kernel_rfl) (by kernel_rfl)
theorem nonces_open {H : Type} {enc : TypeId × Value → H} {W : World} {r : Reach} {base base' : Nat} {spare : Nat → Bool} {held : Bool} {v : Value} {d : DataW H} {p : List MemPlace} (hv : Value.okWide Tryd.prog W r base 47 v) (h : DataW.Trod enc Tryd.prog W base' spare held 47 v d p) :
    ∃ (cp : Array Value) (a : Nat) (b : Nat) (r : Nat) (s : Nat), v = .agg cp ∧ a < 4294967296 ∧ cp[0]? = some (.int .u32 (a : Nat)) ∧ b < 4294967296 ∧ cp[1]? = some (.int .u32 (b : Nat)) ∧ r < 18446744073709551616 ∧ cp[2]? = some (.int .u64 (r : Nat)) ∧ s < 18446744073709551616 ∧ cp[3]? = some (.int .u64 (s : Nat)) := by
  have hv' : ∃ cs, v = .agg cs := by
    simp only [Value.okWide, Tryd.underlying47] at hv
    obtain ⟨cs, h1, _⟩ := hv
    exact ⟨cs, h1⟩
  obtain ⟨cs, rfl⟩ := hv'
  obtain ⟨fuel, hf⟩ := h
  obtain ⟨xs, m, _, _, hl, hlen, hel⟩ := DataW.trod_struct Tryd.underlying47 hf
  have hx : xs.length = 4 := hlen
  have g : ∀ i, i < 4 → xs[i]? = some (xs[i]?.getD (.agg [], [])) := fun i hi => by simp [hx, hi]
  have e0 : DataW.trod enc Tryd.prog W base' spare held m 23 (List.take (Tryd.prog.cellsOf 23) (List.drop 0 (Value.agg cs).cells.toList)) = xs[0]? := hel 0 _ rfl
  rw [show Tryd.prog.cellsOf 23 = 1 by kernel_rfl, g 0 (by omega)] at e0
  obtain ⟨z0, q0, _, w0⟩ := DataW.trod_int Tryd.underlying23 e0
  have bb0 := bounds_u32 w0
  obtain ⟨a, rfl⟩ := Int.eq_ofNat_of_zero_le bb0.1
  have e1 : DataW.trod enc Tryd.prog W base' spare held m 23 (List.take (Tryd.prog.cellsOf 23) (List.drop 1 (Value.agg cs).cells.toList)) = xs[1]? := hel 1 _ rfl
  rw [show Tryd.prog.cellsOf 23 = 1 by kernel_rfl, g 1 (by omega)] at e1
  obtain ⟨z1, q1, _, w1⟩ := DataW.trod_int Tryd.underlying23 e1
  have bb1 := bounds_u32 w1
  obtain ⟨b, rfl⟩ := Int.eq_ofNat_of_zero_le bb1.1
  have e2 : DataW.trod enc Tryd.prog W base' spare held m 24 (List.take (Tryd.prog.cellsOf 24) (List.drop 2 (Value.agg cs).cells.toList)) = xs[2]? := hel 2 _ rfl
  rw [show Tryd.prog.cellsOf 24 = 1 by kernel_rfl, g 2 (by omega)] at e2
  obtain ⟨z2, q2, _, w2⟩ := DataW.trod_int Tryd.underlying24 e2
  have bb2 := bounds_u64 w2
  obtain ⟨r, rfl⟩ := Int.eq_ofNat_of_zero_le bb2.1
  have e3 : DataW.trod enc Tryd.prog W base' spare held m 24 (List.take (Tryd.prog.cellsOf 24) (List.drop 3 (Value.agg cs).cells.toList)) = xs[3]? := hel 3 _ rfl
  rw [show Tryd.prog.cellsOf 24 = 1 by kernel_rfl, g 3 (by omega)] at e3
  obtain ⟨z3, q3, _, w3⟩ := DataW.trod_int Tryd.underlying24 e3
  have bb3 := bounds_u64 w3
  obtain ⟨s, rfl⟩ := Int.eq_ofNat_of_zero_le bb3.1
  exact ⟨cs, a, b, r, s, rfl, (by have := bb0.2; omega), (by have h3 := congrArg (fun l => l[0]?) q0; simpa [Value.cells] using h3), (by have := bb1.2; omega), (by have h3 := congrArg (fun l => l[0]?) q1; simpa [Value.cells] using h3), (by have := bb2.2; omega), (by have h3 := congrArg (fun l => l[0]?) q2; simpa [Value.cells] using h3), (by have := bb3.2; omega), (by have h3 := congrArg (fun l => l[0]?) q3; simpa [Value.cells] using h3)⟩
set_option maxRecDepth 100000 in
theorem derivenonces_lifted (os : Os) (started : os.Started) (H : Type) (enc : TypeId × Value → H) :
    ReturnsInHanded {} Tryd.checked os 5 .any (fun w args => (Rows.deriveNoncesSpec.pre enc Tryd.prog Tryd.f5 [] false w args ∧ laidMetH Tryd.prog [("billet/sha.constants", Rows.laid_billet_sha_constants)] w) ∧ sizedMet enc Tryd.prog Tryd.f5 (OpenSpec.ofChange Rows.deriveNoncesSpec) false w args) (Rows.deriveNoncesSpec.post enc Tryd.prog Tryd.f5 false true false false) := by
  refine returnsInHanded_of_change_and (C := Tryd.checked) (X := fun w _ => laidMetH Tryd.prog [("billet/sha.constants", Rows.laid_billet_sha_constants)] w) (fun _ _ _ hh h => h.of_heap hh) Tryd.own started (by kernel_rfl) Tryd.func5
    (ChangeSpec.witness_shaped (enc := enc) (C := Tryd.checked) (os := os) (X := fun w _ => laidMetH Tryd.prog [("billet/sha.constants", Rows.laid_billet_sha_constants)] w) false (World.doorLaid Tryd.prog 400 os) #[.agg #[.int .u32 0, .int .u32 0, .int .u64 0, .int .u64 0]] 8 rfl (World.shaped_of_RefB (by kernel_rfl) (by kernel_rfl)) (by kernel_rfl) (by kernel_rfl) (by kernel_rfl) (derivenonces_door os _)) ?_
  intro W base args ds gs before hval0 hW _ hsz0 hL _
  have hval : ∀ (j : Nat) t v, Tryd.f5.params[j]? = some t → args[j]? = some v → Value.okWide Tryd.prog W .any base t v := hval0
  have hW' := hW
  obtain ⟨p, q, hA0, hV, rfl, hfz, hnd⟩ := hW
  have hA : DataW.TrodAll enc Tryd.prog W 0 (fun _ => true) true Tryd.f5.params.toList args.toList ds p := hA0
  have hsz : (DataW.weightsEach Tryd.prog (Tryd.f5.params.toList ++ Rows.deriveNoncesSpec.plain.varTypes Tryd.prog) (ds ++ gs)).all (· ≤ reachBytes) = true := hsz0
  rw [Tryd.params5] at hA hval hsz
  obtain ⟨v0, d0, rfl, rfl, h0_⟩ := trodAll_one hA
  obtain ⟨rfl, rfl⟩ := trodVars_none hV
  obtain ⟨Tg, fg, hg⟩ := tab_of hL (by kernel_rfl) (List.mem_singleton.2 rfl) (g := 0) (t := 76) (e := 23) (K := kTab) (by kernel_rfl) (by kernel_rfl) Tryd.underlying76 Tryd.underlying23 (by kernel_rfl) (by kernel_rfl) (by kernel_rfl) (by kernel_rfl)
  obtain ⟨cp, a, b, r, s, rfl, ha, c0, hy, c1, hr, c2, hs, c3⟩ := nonces_open (hval 0 47 v0 rfl rfl) h0_
  obtain ⟨O, hD, hH, hK, _⟩ := tabO_of hg (p := none) (Ps := []) (.inl rfl)
  by_cases h1 : a = b
  · by_cases h2 : r = s
    · skip
      refine (derivenonces_YY O hD Tg fg hK cp a b r s ha hy hr hs c0 c1 c2 c3 h1 h2 W hH).mono fun e W' ⟨he, hb⟩ => ?_
      subst he
      exact ⟨_, rfl, post_true Tryd.laidOut (by rw [Tryd.params5]; decide +kernel) rfl hW' rfl rfl rfl rfl Tryd.underlying4 hb⟩
    · skip
      refine (derivenonces_YN O hD Tg fg hK cp a b r s ha hy hr hs c0 c1 c2 c3 h1 h2 W hH).mono fun e W' ⟨he, hb⟩ => ?_
      subst he
      exact ⟨_, rfl, post_true Tryd.laidOut (by rw [Tryd.params5]; decide +kernel) rfl hW' rfl rfl rfl rfl Tryd.underlying4 hb⟩
  · by_cases h2 : r = s
    · skip
      refine (derivenonces_NY O hD Tg fg hK cp a b r s ha hy hr hs c0 c1 c2 c3 h1 h2 W hH).mono fun e W' ⟨he, hb⟩ => ?_
      subst he
      exact ⟨_, rfl, post_true Tryd.laidOut (by rw [Tryd.params5]; decide +kernel) rfl hW' rfl rfl rfl rfl Tryd.underlying4 hb⟩
    · skip
      refine (derivenonces_NN O hD Tg fg hK cp a b r s ha hy hr hs c0 c1 c2 c3 h1 h2 W hH).mono fun e W' ⟨he, hb⟩ => ?_
      subst he
      exact ⟨_, rfl, post_true Tryd.laidOut (by rw [Tryd.params5]; decide +kernel) rfl hW' rfl rfl rfl rfl Tryd.underlying4 hb⟩

theorem derivenonces_row : Rows.DeriveNoncesSaid :=
  OpenClaim.holds_of_wide 5 Tryd.f5 rfl rfl rfl rfl rfl rfl rfl ⟨rfl, rfl, rfl, rfl, rfl⟩ rfl rfl rfl rfl rfl (by kernel_rfl) Tryd.func5 (by kernel_rfl)
    (of_decide_eq_true (by kernel_rfl)) (by unfold Func.isWrapper; first | (rw [if_pos (by decide +kernel)]; kernel_rfl) | (rw [if_neg (by decide +kernel)]; exact ⟨rfl, rfl⟩))
    (fun os started H enc _ => derivenonces_lifted os started H enc)
theorem deriveNonces_holds : Rows.DeriveNoncesCardSaid :=
  Claim7.holds_tied_plain_at .later [] [.data] true (true, "69b863f9281f7484f0888d19628124832e40c528266a720a8642b1d9e1f90fe1") false
    derivenonces_row (fun _ h => by cases h) (by kernel_rfl) (fun _ h => by cases h) deriveNonces_row_tie rfl ⟨rfl, rfl⟩ (by kernel_rfl) rfl
    (fun f fn hf hfn => by
      obtain rfl : f = 5 := Option.some.inj ((show Tryd.prog.funcNamed "billet/billetlaw07.DeriveNonces" = some 5 by kernel_rfl).symm.trans hf) |>.symm
      obtain rfl : fn = Tryd.f5 := (Option.some.inj (Tryd.func5.symm.trans hfn)).symm
      exact ⟨by kernel_rfl, fun j t ht => by
        rw [Tryd.params5] at ht
        have hm : t ∈ [47] := by simpa using Array.mem_of_getElem? ht
        have hall : ([47].all fun u => !Tryd.prog.wantsStandIn u) = true := by kernel_rfl
        exact (show Tryd.prog.wantsStandIn t = false by simpa using List.all_eq_true.1 hall t hm)⟩)
    (by kernel_rfl)
#print axioms deriveNonces_holds

end Go.Proofs.YtkpindnekaijfaaDoor
