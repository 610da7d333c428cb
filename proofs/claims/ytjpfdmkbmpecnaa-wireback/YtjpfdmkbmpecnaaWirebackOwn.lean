/- WireBack, for every text and box of at most 100 bytes, every name, every size from 1 to 256, and every row of at most 100 texts, cut or filled up to that size: the text comes back out of its body, the name and the box out of their request, the items out of their list, and what is too long, or of another size, or too many, is refused: the law returns true, and nothing that was there has turned. No condition. -/
import Derived.Test.YtjpfdmkbmpecnaaW4
import Derived.Test.YtjpfdmkbmpecnaaZ2
import Derived.ChangeMaps5
import Derived.SizedLaws
import Derived.SliceStrings
namespace Go.Proofs.Ytjpfdmkbmpecnaa
open Go.ChangeShapes Go.WideShapes Go.ChangeAt Go.RowKit
set_option maxRecDepth 10000 in
theorem back_open {H : Type} {enc : TypeId × Value → H} {W : World} {r : Reach} {base base' : Nat} {spare : Nat → Bool} {held : Bool} {v : Value} {d : DataW H} {p : List MemPlace} (hv : Value.okWide Try.prog W r base 52 v) (h : DataW.Trod enc Try.prog W base' spare held 52 v d p) :
    ∃ (cp : Array Value) (X : List Nat) (D : List Nat) (Y : List Nat) (q : Nat) (p : Option Addr) (Ps : List (List Nat)) (c : Nat), v = .agg cp ∧ (∀ i, X.getD i 0 < 256) ∧ cp[0]? = some (.string (bs X)) ∧ X.length ≤ maxLen ∧ Bytes 16 D ∧ PartAt cp 1 (cn .u8 D) ∧ (∀ i, Y.getD i 0 < 256) ∧ cp[17]? = some (.string (bs Y)) ∧ Y.length ≤ maxLen ∧ q < 256 ∧ cp[18]? = some (.int .u8 (q : Nat)) ∧ (∀ X ∈ Ps, ∀ i, X.getD i 0 < 256) ∧ cp[19]? = some (.slice p Ps.length c) ∧ StrsIn W p Ps ∧ Ps.length ≤ maxLen := by
  have hv' : ∃ cs, v = .agg cs := by
    simp only [Value.okWide, Try.underlying52] at hv
    obtain ⟨cs, h1, _⟩ := hv
    exact ⟨cs, h1⟩
  obtain ⟨cs, rfl⟩ := hv'
  obtain ⟨fuel, hf⟩ := h
  obtain ⟨xs, m, _, _, hl, hlen, hel⟩ := DataW.trod_struct Try.underlying52 hf
  have hx : xs.length = 5 := hlen
  have g : ∀ i, i < 5 → xs[i]? = some (xs[i]?.getD (.agg [], [])) := fun i hi => by simp [hx, hi]
  have e0 : DataW.trod enc Try.prog W base' spare held m 9 (List.take (Try.prog.cellsOf 9) (List.drop 0 (Value.agg cs).cells.toList)) = xs[0]? := hel 0 _ rfl
  rw [show Try.prog.cellsOf 9 = 1 by kernel_rfl, g 0 (by omega)] at e0
  obtain ⟨s0, q0, _, m0⟩ := DataW.trod_string Try.underlying9 e0
  have e1 : DataW.trod enc Try.prog W base' spare held m 24 (List.take (Try.prog.cellsOf 24) (List.drop 1 (Value.agg cs).cells.toList)) = xs[1]? := hel 1 _ rfl
  rw [show Try.prog.cellsOf 24 = 16 by kernel_rfl, g 1 (by omega)] at e1
  obtain ⟨D, b1, p1⟩ := bytes_in Try.underlying24 Try.underlying5 (by kernel_rfl) e1
  have e2 : DataW.trod enc Try.prog W base' spare held m 9 (List.take (Try.prog.cellsOf 9) (List.drop 17 (Value.agg cs).cells.toList)) = xs[2]? := hel 2 _ rfl
  rw [show Try.prog.cellsOf 9 = 1 by kernel_rfl, g 2 (by omega)] at e2
  obtain ⟨s2, q2, _, m2⟩ := DataW.trod_string Try.underlying9 e2
  have e3 : DataW.trod enc Try.prog W base' spare held m 5 (List.take (Try.prog.cellsOf 5) (List.drop 18 (Value.agg cs).cells.toList)) = xs[3]? := hel 3 _ rfl
  rw [show Try.prog.cellsOf 5 = 1 by kernel_rfl, g 3 (by omega)] at e3
  obtain ⟨z3, q3, _, w3⟩ := DataW.trod_int Try.underlying5 e3
  have bb3 := bounds_u8 w3
  obtain ⟨q, rfl⟩ := Int.eq_ofNat_of_zero_le bb3.1
  have e4 : DataW.trod enc Try.prog W base' spare held m 26 (List.take (Try.prog.cellsOf 26) (List.drop 19 (Value.agg cs).cells.toList)) = xs[4]? := hel 4 _ rfl
  rw [show Try.prog.cellsOf 26 = 1 by kernel_rfl, g 4 (by omega)] at e4
  obtain ⟨p, Ps, c, q4, hb4, hs4, hm4⟩ := strs_cells Try.underlying26 Try.underlying9 (by kernel_rfl) e4
  exact ⟨cs, nl s0, D, nl s2, q, p, Ps, c, rfl, nl_lt s0, (by rw [bs_nl]; have h3 := congrArg (fun l => l[0]?) q0; simpa [Value.cells] using h3), (by rw [nl_len]; exact m0), b1, part_in p1, nl_lt s2, (by rw [bs_nl]; have h3 := congrArg (fun l => l[0]?) q2; simpa [Value.cells] using h3), (by rw [nl_len]; exact m2), (by have := bb3.2; omega), (by have h3 := congrArg (fun l => l[0]?) q3; simpa [Value.cells] using h3), hb4, (by have h3 := congrArg (fun l => l[0]?) q4; simpa [Value.cells] using h3), hs4, hm4⟩
set_option maxRecDepth 100000 in
theorem wireback_lifted (os : Os) (started : os.Started) (H : Type) (enc : TypeId × Value → H) :
    ReturnsInHanded {} Try.checked os 5 .any (Rows.wireBackSpec.pre6 enc Try.prog Try.f5 Rows.wireBackRow.domain false) (Rows.wireBackSpec.post enc Try.prog Try.f5 false true false false) := by
  refine returnsInHanded_of_change (C := Try.checked) Try.own started (by kernel_rfl) Try.func5
    (ChangeSpec.witness6 (enc := enc) (C := Try.checked) false ⟨#[], #[.agg #[.string (bs []), .int .u8 0, .int .u8 0, .int .u8 0, .int .u8 0, .int .u8 0, .int .u8 0, .int .u8 0, .int .u8 0, .int .u8 0, .int .u8 0, .int .u8 0, .int .u8 0, .int .u8 0, .int .u8 0, .int .u8 0, .int .u8 0, .string (bs []), .int .u8 0, .slice none 0 0]], []⟩ 8 (by kernel_rfl) (by kernel_rfl) (by kernel_rfl) (by kernel_rfl)) ?_
  intro W base args ds gs before hval0 hW hcnd _
  have hval : ∀ (j : Nat) t v, Try.f5.params[j]? = some t → args[j]? = some v → Value.okWide Try.prog W .any base t v := hval0
  have hW' := hW
  obtain ⟨p, q, hA0, hV, rfl, hfz, hnd⟩ := hW
  have hA : DataW.TrodAll enc Try.prog W 0 (fun _ => true) true Try.f5.params.toList args.toList ds p := hA0
  rw [Try.params5] at hA hval
  obtain ⟨v0, d0, rfl, rfl, h0_⟩ := trodAll_one hA
  obtain ⟨rfl, rfl⟩ := trodVars_none hV
  obtain ⟨cp, X, D, Y, q, p, Ps, c, rfl, hX, c0, _, hDb, c1, hY, c2, _, hq, c3, hP, c4, hQ, _⟩ := back_open (hval 0 52 v0 rfl rfl) h0_
  obtain ⟨O, hH, hD, hF⟩ := row_O (rowIn_strs hQ)
  have getD_mem : ∀ (Ps : List (List Nat)) {i : Nat}, i < Ps.length → Ps.getD i [] ∈ Ps := fun Ps i h => by rw [List.getD_eq_getElem?_getD, List.getElem?_eq_getElem h]; exact List.getElem_mem h
  refine (back_any O hD cp X hX D hDb.len hDb.lt Y hY q hq p Ps.length c (fun j => Ps.getD j []) (fun i hi => hP _ (getD_mem Ps hi)) c0 c1 c2 c3 c4 hF W hH).mono fun e W' ⟨he, hb⟩ => ?_
  subst he
  exact ⟨_, rfl, post_true Try.laidOut (by rw [Try.params5]; decide +kernel) rfl hW' rfl rfl rfl rfl Try.underlying4 hb⟩
theorem wireBack_holds : Rows.WireBackSaid :=
  OpenClaim.holds_of_wide 5 Try.f5 rfl rfl rfl rfl rfl rfl rfl ⟨rfl, rfl, rfl, rfl, rfl⟩ rfl rfl rfl rfl rfl (by kernel_rfl) Try.func5 (by kernel_rfl)
    (of_decide_eq_true (by kernel_rfl)) (by unfold Func.isWrapper; first | (rw [if_pos (by decide +kernel)]; kernel_rfl) | (rw [if_neg (by decide +kernel)]; exact ⟨rfl, rfl⟩))
    (fun os started H enc _ => wireback_lifted os started H enc)
#print axioms wireBack_holds
end Go.Proofs.Ytjpfdmkbmpecnaa
