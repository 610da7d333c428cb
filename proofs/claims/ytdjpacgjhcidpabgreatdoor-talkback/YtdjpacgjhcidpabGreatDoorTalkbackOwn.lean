/- TalkBack, for either game, honest or not, every tape of at most 200 bytes, every two secrets, every round and every two texts of at most 19 bytes: where the two ways have two keys, what one says the other one hears, both requests bear one name, and no forgery is met: the law returns true, and nothing that was there has turned. Condition: the table of package sha holds what the text of the program lays there (tied). -/
import Derived.Test.YtdjpacgjhcidpabGreatDoorZ9
import Derived.Test.YtdjpacgjhcidpabGreatDoorZ3
import Derived.Test.YtdjpacgjhcidpabGreatDoorZ2
import Derived.SliceStrings
import Derived.Test.YtdjpacgjhcidpabGreatDoorCards
import Derived.Test.YtdjpacgjhcidpabGreatDoorTie
import Derived.ChangeMaps5
import Derived.SevenTiedAt
import Derived.SizedLaws
namespace Go.Proofs.YtdjpacgjhcidpabGreatDoor
open Go.ChangeShapes Go.WideShapes Go.ChangeAt Go.RowKit
theorem talkback_door (os : Os) (args : Array Value) : laidMetH Tryz.prog [("billet/sha.constants", Rows.laid_billet_sha_constants)] ((World.doorLaid Tryz.prog 400 os).forCall (fun _ _ => 0) ⟨#[], args, []⟩).memory :=
  laidMetH_of_parts3 (fuel := 8) (laidMet_of_run' 8 (by kernel_rfl) (by kernel_rfl)) (by kernel_rfl) (by kernel_rfl)
theorem suf_cons {cp A R : Array Value} {off m : Nat} (hm : A.size = m) (h : PartAt cp off A) (r : ∀ j, cp[off + m + j]? = R[j]?) : ∀ j, cp[off + j]? = (A ++ R)[j]? := fun j => by
  subst hm
  rcases Nat.lt_or_ge j A.size with hj | hj
  · rw [Array.getElem?_append_left hj, Array.getElem?_eq_getElem hj]; exact h j _ (Array.getElem?_eq_getElem hj)
  · rw [Array.getElem?_append_right hj, ← r (j - A.size), show off + A.size + (j - A.size) = off + j by omega]
theorem suf_two {cp : Array Value} {n : Nat} {a b : Value} (hs : cp.size = n + 2) (h0 : cp[n]? = some a) (h1 : cp[n + 1]? = some b) : ∀ j, cp[n + j]? = (#[a, b] : Array Value)[j]? := fun j => match j with
  | 0 => h0
  | 1 => h1
  | j + 2 => by rw [Array.getElem?_eq_none (by omega), Array.getElem?_eq_none (by simp)]
theorem suf_all {cp R : Array Value} (h : ∀ j, cp[0 + j]? = R[j]?) : cp = R := Array.ext_getElem? fun j => by rw [← h j, Nat.zero_add]
theorem part_inA {ps cs : Array Value} {k off : Nat} (h : ∀ (j : Nat) (v : Value), ps[j]? = some v → (List.take k (List.drop off (Value.agg cs).cells.toList))[j]? = some v) : ∀ (j : Nat) (v : Value), ps[j]? = some v → cs[off + j]? = some v := fun j v hv => by
  have := h j v hv
  rw [List.getElem?_take] at this
  split at this
  · simpa [Value.cells] using this
  · cases this
theorem str2_in {H : Type} {enc : TypeId × Value → H} {P : Program} {W : World} {base' : Nat} {spare : Nat → Bool} {held : Bool} {fuel : Nat} {t e : TypeId} {L : List Value} {x : DataW H × List MemPlace} (hu : P.underlying t = some (.array 2 e)) (he : P.underlying e = some .string) (hc : P.cellsOf e = 1) (hf : DataW.trod enc P W base' spare held fuel t L = some x) :
    ∃ a b : List Nat, (∀ i, a.getD i 0 < 256) ∧ (∀ i, b.getD i 0 < 256) ∧ ∀ (j : Nat) (v : Value), (#[.string (bs a), .string (bs b)] : Array Value)[j]? = some v → L[j]? = some v := by
  obtain ⟨xs, m, _, _, _, hl, hel⟩ := DataW.trod_array hu hf
  rw [hc] at hel
  have key : ∀ i, i < 2 → ∃ k : ByteArray, L[i]? = some (.string k) := fun i hi => by
    have h1 := hel i hi
    have h2 : xs[i]? = some (xs[i]'(by omega)) := by simp
    rw [h2] at h1
    obtain ⟨k, e, _, _⟩ := DataW.trod_string he h1
    refine ⟨k, ?_⟩
    rw [Nat.mul_one] at e
    have h3 := congrArg (fun l => l[0]?) e
    simpa using h3
  obtain ⟨z0, q0⟩ := key 0 (by decide)
  obtain ⟨z1, q1⟩ := key 1 (by decide)
  refine ⟨nl z0, nl z1, nl_lt z0, nl_lt z1, fun j v hv => ?_⟩
  rw [bs_nl, bs_nl] at hv
  match j with
  | 0 => simp at hv; subst hv; exact q0
  | 1 => simp at hv; subst hv; exact q1
  | j + 2 => simp at hv
theorem part_1 {cp : Array Value} {n : Nat} {a : Value} (h : cp[n]? = some a) : PartAt cp n #[a] := fun j v hv => match j with
  | 0 => by simp at hv; subst hv; exact h
  | j + 1 => by simp at hv
theorem part_3 {cp : Array Value} {a b c : Value} (h0 : cp[0]? = some a) (h1 : cp[1]? = some b) (h2 : cp[2]? = some c) : PartAt cp 0 #[a, b, c] := fun j v hv => match j with
  | 0 => by simp at hv; subst hv; exact h0
  | 1 => by simp at hv; subst hv; exact h1
  | 2 => by simp at hv; subst hv; exact h2
  | j + 3 => by simp at hv
set_option maxRecDepth 10000 in
theorem back_open {H : Type} {enc : TypeId × Value → H} {W : World} {r : Reach} {base base' : Nat} {spare : Nat → Bool} {held : Bool} {v : Value} {d : DataW H} {p : List MemPlace} (hv : Value.okWide Tryz.prog W r base 38 v) (h : DataW.Trod enc Tryz.prog W base' spare held 38 v d p) :
    ∃ (cp : Array Value) (i : Bool) (h : Bool) (T : List Nat) (A : List Nat) (B : List Nat) (r : Nat) (X : List Nat) (Y : List Nat), v = .agg cp ∧ cp[0]? = some (.bool i) ∧ cp[1]? = some (.bool h) ∧ (∀ i, T.getD i 0 < 256) ∧ cp[2]? = some (.string (bs T)) ∧ T.length ≤ maxLen ∧ Bytes 32 A ∧ PartAt cp 3 (cn .u8 A) ∧ Bytes 32 B ∧ PartAt cp 35 (cn .u8 B) ∧ r < 18446744073709551616 ∧ cp[67]? = some (.int .u64 (r : Nat)) ∧ (∀ i, X.getD i 0 < 256) ∧ (∀ i, Y.getD i 0 < 256) ∧ PartAt cp 68 #[.string (bs X), .string (bs Y)] ∧ cp.size = 70 := by
  have hv' : ∃ cs, v = .agg cs ∧ cs.size = 70 := by
    simp only [Value.okWide, Tryz.underlying38] at hv
    obtain ⟨cs, h1, h2, _⟩ := hv
    exact ⟨cs, h1, h2.trans (by kernel_rfl)⟩
  obtain ⟨cs, rfl, hsz⟩ := hv'
  obtain ⟨fuel, hf⟩ := h
  obtain ⟨xs, m, _, _, hl, hlen, hel⟩ := DataW.trod_struct Tryz.underlying38 hf
  have hx : xs.length = 7 := hlen
  have g : ∀ i, i < 7 → xs[i]? = some (xs[i]?.getD (.agg [], [])) := fun i hi => by simp [hx, hi]
  have e0 : DataW.trod enc Tryz.prog W base' spare held m 4 (List.take (Tryz.prog.cellsOf 4) (List.drop 0 (Value.agg cs).cells.toList)) = xs[0]? := hel 0 _ rfl
  rw [show Tryz.prog.cellsOf 4 = 1 by kernel_rfl, g 0 (by omega)] at e0
  obtain ⟨i, q0, _⟩ := DataW.trod_bool Tryz.underlying4 e0
  have e1 : DataW.trod enc Tryz.prog W base' spare held m 4 (List.take (Tryz.prog.cellsOf 4) (List.drop 1 (Value.agg cs).cells.toList)) = xs[1]? := hel 1 _ rfl
  rw [show Tryz.prog.cellsOf 4 = 1 by kernel_rfl, g 1 (by omega)] at e1
  obtain ⟨h, q1, _⟩ := DataW.trod_bool Tryz.underlying4 e1
  have e2 : DataW.trod enc Tryz.prog W base' spare held m 9 (List.take (Tryz.prog.cellsOf 9) (List.drop 2 (Value.agg cs).cells.toList)) = xs[2]? := hel 2 _ rfl
  rw [show Tryz.prog.cellsOf 9 = 1 by kernel_rfl, g 2 (by omega)] at e2
  obtain ⟨s2, q2, _, m2⟩ := DataW.trod_string Tryz.underlying9 e2
  have e3 : DataW.trod enc Tryz.prog W base' spare held m 23 (List.take (Tryz.prog.cellsOf 23) (List.drop 3 (Value.agg cs).cells.toList)) = xs[3]? := hel 3 _ rfl
  rw [show Tryz.prog.cellsOf 23 = 32 by kernel_rfl, g 3 (by omega)] at e3
  obtain ⟨A, b3, p3⟩ := bytes_in Tryz.underlying23 Tryz.underlying5 (by kernel_rfl) e3
  have e4 : DataW.trod enc Tryz.prog W base' spare held m 23 (List.take (Tryz.prog.cellsOf 23) (List.drop 35 (Value.agg cs).cells.toList)) = xs[4]? := hel 4 _ rfl
  rw [show Tryz.prog.cellsOf 23 = 32 by kernel_rfl, g 4 (by omega)] at e4
  obtain ⟨B, b4, p4⟩ := bytes_in Tryz.underlying23 Tryz.underlying5 (by kernel_rfl) e4
  have e5 : DataW.trod enc Tryz.prog W base' spare held m 24 (List.take (Tryz.prog.cellsOf 24) (List.drop 67 (Value.agg cs).cells.toList)) = xs[5]? := hel 5 _ rfl
  rw [show Tryz.prog.cellsOf 24 = 1 by kernel_rfl, g 5 (by omega)] at e5
  obtain ⟨z5, q5, _, w5⟩ := DataW.trod_int Tryz.underlying24 e5
  have bb5 := bounds_u64 w5
  obtain ⟨r, rfl⟩ := Int.eq_ofNat_of_zero_le bb5.1
  have e6 : DataW.trod enc Tryz.prog W base' spare held m 36 (List.take (Tryz.prog.cellsOf 36) (List.drop 68 (Value.agg cs).cells.toList)) = xs[6]? := hel 6 _ rfl
  rw [show Tryz.prog.cellsOf 36 = 2 by kernel_rfl, g 6 (by omega)] at e6
  obtain ⟨X, Y, uX, uY, p6⟩ := str2_in Tryz.underlying36 Tryz.underlying9 (by kernel_rfl) e6
  exact ⟨cs, i, h, nl s2, A, B, r, X, Y, rfl, (by have h3 := congrArg (fun l => l[0]?) q0; simpa [Value.cells] using h3), (by have h3 := congrArg (fun l => l[0]?) q1; simpa [Value.cells] using h3), nl_lt s2, (by rw [bs_nl]; have h3 := congrArg (fun l => l[0]?) q2; simpa [Value.cells] using h3), (by rw [nl_len]; exact m2), b3, part_in p3, b4, part_in p4, (by have := bb5.2; omega), (by have h3 := congrArg (fun l => l[0]?) q5; simpa [Value.cells] using h3), uX, uY, part_inA p6, hsz⟩
set_option maxRecDepth 100000 in
theorem talkback_lifted (os : Os) (started : os.Started) (H : Type) (enc : TypeId × Value → H) :
    ReturnsInHanded {} Tryz.checked os 4 .any (fun w args => (Rows.talkBackSpec.pre enc Tryz.prog Tryz.f4 [] false w args ∧ laidMetH Tryz.prog [("billet/sha.constants", Rows.laid_billet_sha_constants)] w) ∧ sizedMet enc Tryz.prog Tryz.f4 (OpenSpec.ofChange Rows.talkBackSpec) false w args) (Rows.talkBackSpec.post enc Tryz.prog Tryz.f4 false true false false) := by
  refine returnsInHanded_of_change_and (C := Tryz.checked) (X := fun w _ => laidMetH Tryz.prog [("billet/sha.constants", Rows.laid_billet_sha_constants)] w) (fun _ _ _ hh h => h.of_heap hh) Tryz.own started (by kernel_rfl) Tryz.func4
    (ChangeSpec.witness_shaped (enc := enc) (C := Tryz.checked) (os := os) (X := fun w _ => laidMetH Tryz.prog [("billet/sha.constants", Rows.laid_billet_sha_constants)] w) false (World.doorLaid Tryz.prog 400 os) #[.agg #[.bool false, .bool false, .string (bs []), .int .u8 0, .int .u8 0, .int .u8 0, .int .u8 0, .int .u8 0, .int .u8 0, .int .u8 0, .int .u8 0, .int .u8 0, .int .u8 0, .int .u8 0, .int .u8 0, .int .u8 0, .int .u8 0, .int .u8 0, .int .u8 0, .int .u8 0, .int .u8 0, .int .u8 0, .int .u8 0, .int .u8 0, .int .u8 0, .int .u8 0, .int .u8 0, .int .u8 0, .int .u8 0, .int .u8 0, .int .u8 0, .int .u8 0, .int .u8 0, .int .u8 0, .int .u8 0, .int .u8 0, .int .u8 0, .int .u8 0, .int .u8 0, .int .u8 0, .int .u8 0, .int .u8 0, .int .u8 0, .int .u8 0, .int .u8 0, .int .u8 0, .int .u8 0, .int .u8 0, .int .u8 0, .int .u8 0, .int .u8 0, .int .u8 0, .int .u8 0, .int .u8 0, .int .u8 0, .int .u8 0, .int .u8 0, .int .u8 0, .int .u8 0, .int .u8 0, .int .u8 0, .int .u8 0, .int .u8 0, .int .u8 0, .int .u8 0, .int .u8 0, .int .u8 0, .int .u64 0, .string (bs []), .string (bs [])]] 8 rfl (World.shaped_of_RefB (by kernel_rfl) (by kernel_rfl)) (by kernel_rfl) (by kernel_rfl) (by kernel_rfl) (talkback_door os _)) ?_
  intro W base args ds gs before hval0 hW _ hsz0 hL _
  have hval : ∀ (j : Nat) t v, Tryz.f4.params[j]? = some t → args[j]? = some v → Value.okWide Tryz.prog W .any base t v := hval0
  have hW' := hW
  obtain ⟨p, q, hA0, hV, rfl, hfz, hnd⟩ := hW
  have hA : DataW.TrodAll enc Tryz.prog W 0 (fun _ => true) true Tryz.f4.params.toList args.toList ds p := hA0
  have hsz : (DataW.weightsEach Tryz.prog (Tryz.f4.params.toList ++ Rows.talkBackSpec.plain.varTypes Tryz.prog) (ds ++ gs)).all (· ≤ reachBytes) = true := hsz0
  rw [Tryz.params4] at hA hval hsz
  obtain ⟨v0, d0, rfl, rfl, h0_⟩ := trodAll_one hA
  obtain ⟨rfl, rfl⟩ := trodVars_none hV
  obtain ⟨Tg, fg, hg⟩ := tab_of hL (by kernel_rfl) (List.mem_singleton.2 rfl) (g := 0) (t := 188) (e := 58) (K := kTab) (by kernel_rfl) (by kernel_rfl) Tryz.underlying188 Tryz.underlying58 (by kernel_rfl) (by kernel_rfl) (by kernel_rfl) (by kernel_rfl)
  obtain ⟨cp, i, h, T, A, B, r, X, Y, rfl, c0, c1, hT, c2, _, hKa, c3, hKb, c4, hr, c5, hX, hY, c6, cs_⟩ := back_open (hval 0 38 v0 rfl rfl) h0_
  obtain rfl := suf_all (suf_cons rfl (part_3 c0 c1 c2) (suf_cons ((cn_size _ _).trans hKa.len) c3 (suf_cons ((cn_size _ _).trans hKb.len) c4 (suf_cons rfl (part_1 c5) (suf_two cs_ (c6 0 _ rfl) (c6 1 _ rfl))))))
  refine (back_any Tg fg i h T A B X Y r hT ⟨hKa.len, hKa.lt⟩ ⟨hKb.len, hKb.lt⟩ hr hX hY W hg).mono fun e W' ⟨he, hb⟩ => ?_
  subst he
  exact ⟨_, rfl, post_true Tryz.laidOut (by rw [Tryz.params4]; decide +kernel) rfl hW' rfl rfl rfl rfl Tryz.underlying4 hb⟩
theorem talkback_row : Rows.TalkBackSaid :=
  OpenClaim.holds_of_wide 4 Tryz.f4 rfl rfl rfl rfl rfl rfl rfl ⟨rfl, rfl, rfl, rfl, rfl⟩ rfl rfl rfl rfl rfl (by kernel_rfl) Tryz.func4 (by kernel_rfl)
    (of_decide_eq_true (by kernel_rfl)) (by unfold Func.isWrapper; first | (rw [if_pos (by decide +kernel)]; kernel_rfl) | (rw [if_neg (by decide +kernel)]; exact ⟨rfl, rfl⟩))
    (fun os started H enc _ => talkback_lifted os started H enc)
theorem talkBack_holds : Rows.TalkBackCardSaid :=
  Claim7.holds_tied_plain_at .later [] [.data] true (true, "fc456aaa259d8cbacc7ba3098271fa933a2e0d7e2aad6da6a19a81d0bedb8867") false
    talkback_row (fun _ h => by cases h) (by kernel_rfl) (fun _ h => by cases h) talkBack_row_tie rfl ⟨rfl, rfl⟩ (by kernel_rfl) rfl
    (fun f fn hf hfn => by
      obtain rfl : f = 4 := Option.some.inj ((show Tryz.prog.funcNamed "billet/billetlaw16.TalkBack" = some 4 by kernel_rfl).symm.trans hf) |>.symm
      obtain rfl : fn = Tryz.f4 := (Option.some.inj (Tryz.func4.symm.trans hfn)).symm
      exact ⟨by kernel_rfl, fun j t ht => by
        rw [Tryz.params4] at ht
        have hm : t ∈ [38] := by simpa using Array.mem_of_getElem? ht
        have hall : ([38].all fun u => !Tryz.prog.wantsStandIn u) = true := by kernel_rfl
        exact (show Tryz.prog.wantsStandIn t = false by simpa using List.all_eq_true.1 hall t hm)⟩)
    (by kernel_rfl)
#print axioms talkBack_holds
end Go.Proofs.YtdjpacgjhcidpabGreatDoor
