/- BookReal, for every key, name, nonce and text, the key shared or not: without the ideal game keys and names are themselves, boxes are what they are without a book, what was sealed opens and is no forgery: the law returns true, and nothing that was there has turned. No condition. -/
import Derived.Test.YtniplfjnpjihoaaZ5
import Derived.Test.YtniplfjnpjihoaaZ2
import Derived.SliceStrings
import Derived.ChangeMaps5
import Derived.SizedLaws
namespace Go.Proofs.Ytniplfjnpjihoaa
open Go.ChangeShapes Go.WideShapes Go.ChangeAt Go.RowKit
theorem suf_cons {cp A R : Array Value} {off m : Nat} (hm : A.size = m) (h : PartAt cp off A) (r : ∀ j, cp[off + m + j]? = R[j]?) : ∀ j, cp[off + j]? = (A ++ R)[j]? := fun j => by
  subst hm
  rcases Nat.lt_or_ge j A.size with hj | hj
  · rw [Array.getElem?_append_left hj, Array.getElem?_eq_getElem hj]; exact h j _ (Array.getElem?_eq_getElem hj)
  · rw [Array.getElem?_append_right hj, ← r (j - A.size), show off + A.size + (j - A.size) = off + j by omega]
theorem suf_two {cp : Array Value} {n : Nat} {a b : Value} (hs : cp.size = n + 2) (h0 : cp[n]? = some a) (h1 : cp[n + 1]? = some b) : ∀ j, cp[n + j]? = (#[a, b] : Array Value)[j]? := fun j => match j with
  | 0 => h0
  | 1 => h1
  | j + 2 => by rw [Array.getElem?_eq_none (by omega), Array.getElem?_eq_none (by simp)]
theorem suf_all {cp R : Array Value} (h : ∀ j, cp[0 + j]? = R[j]?) : cp = R := Array.ext_getElem? fun j => by rw [← h j, Nat.zero_add]
set_option maxRecDepth 10000 in
theorem real_open_ {H : Type} {enc : TypeId × Value → H} {W : World} {r : Reach} {base base' : Nat} {spare : Nat → Bool} {held : Bool} {v : Value} {d : DataW H} {p : List MemPlace} (hv : Value.okWide Try.prog W r base 69 v) (h : DataW.Trod enc Try.prog W base' spare held 69 v d p) :
    ∃ (cp : Array Value) (K : List Nat) (J : List Nat) (N : List Nat) (X : List Nat) (share : Bool), v = .agg cp ∧ Bytes 32 K ∧ PartAt cp 0 (cn .u8 K) ∧ Bytes 16 J ∧ PartAt cp 32 (cn .u8 J) ∧ Bytes 12 N ∧ PartAt cp 48 (cn .u8 N) ∧ (∀ i, X.getD i 0 < 256) ∧ cp[60]? = some (.string (bs X)) ∧ X.length ≤ maxLen ∧ cp[61]? = some (.bool share) ∧ cp.size = 62 := by
  have hv' : ∃ cs, v = .agg cs ∧ cs.size = 62 := by
    simp only [Value.okWide, Try.underlying69] at hv
    obtain ⟨cs, h1, h2, _⟩ := hv
    exact ⟨cs, h1, h2.trans (by kernel_rfl)⟩
  obtain ⟨cs, rfl, hsz⟩ := hv'
  obtain ⟨fuel, hf⟩ := h
  obtain ⟨xs, m, _, _, hl, hlen, hel⟩ := DataW.trod_struct Try.underlying69 hf
  have hx : xs.length = 5 := hlen
  have g : ∀ i, i < 5 → xs[i]? = some (xs[i]?.getD (.agg [], [])) := fun i hi => by simp [hx, hi]
  have e0 : DataW.trod enc Try.prog W base' spare held m 42 (List.take (Try.prog.cellsOf 42) (List.drop 0 (Value.agg cs).cells.toList)) = xs[0]? := hel 0 _ rfl
  rw [show Try.prog.cellsOf 42 = 32 by kernel_rfl, g 0 (by omega)] at e0
  obtain ⟨K, b0, p0⟩ := bytes_in Try.underlying42 Try.underlying5 (by kernel_rfl) e0
  have e1 : DataW.trod enc Try.prog W base' spare held m 51 (List.take (Try.prog.cellsOf 51) (List.drop 32 (Value.agg cs).cells.toList)) = xs[1]? := hel 1 _ rfl
  rw [show Try.prog.cellsOf 51 = 16 by kernel_rfl, g 1 (by omega)] at e1
  obtain ⟨J, b1, p1⟩ := bytes_in Try.underlying51 Try.underlying5 (by kernel_rfl) e1
  have e2 : DataW.trod enc Try.prog W base' spare held m 45 (List.take (Try.prog.cellsOf 45) (List.drop 48 (Value.agg cs).cells.toList)) = xs[2]? := hel 2 _ rfl
  rw [show Try.prog.cellsOf 45 = 12 by kernel_rfl, g 2 (by omega)] at e2
  obtain ⟨N, b2, p2⟩ := bytes_in Try.underlying45 Try.underlying5 (by kernel_rfl) e2
  have e3 : DataW.trod enc Try.prog W base' spare held m 9 (List.take (Try.prog.cellsOf 9) (List.drop 60 (Value.agg cs).cells.toList)) = xs[3]? := hel 3 _ rfl
  rw [show Try.prog.cellsOf 9 = 1 by kernel_rfl, g 3 (by omega)] at e3
  obtain ⟨s3, q3, _, m3⟩ := DataW.trod_string Try.underlying9 e3
  have e4 : DataW.trod enc Try.prog W base' spare held m 4 (List.take (Try.prog.cellsOf 4) (List.drop 61 (Value.agg cs).cells.toList)) = xs[4]? := hel 4 _ rfl
  rw [show Try.prog.cellsOf 4 = 1 by kernel_rfl, g 4 (by omega)] at e4
  obtain ⟨share, q4, _⟩ := DataW.trod_bool Try.underlying4 e4
  exact ⟨cs, K, J, N, nl s3, share, rfl, b0, part_in p0, b1, part_in p1, b2, part_in p2, nl_lt s3, (by rw [bs_nl]; have h3 := congrArg (fun l => l[0]?) q3; simpa [Value.cells] using h3), (by rw [nl_len]; exact m3), (by have h3 := congrArg (fun l => l[0]?) q4; simpa [Value.cells] using h3), hsz⟩
set_option maxRecDepth 100000 in
theorem bookreal_lifted (os : Os) (started : os.Started) (H : Type) (enc : TypeId × Value → H) :
    ReturnsInHanded {} Try.checked os 4 .any (Rows.bookRealSpec.pre6 enc Try.prog Try.f4 Rows.bookRealRow.domain false) (Rows.bookRealSpec.post enc Try.prog Try.f4 false true false false) := by
  refine returnsInHanded_of_change (C := Try.checked) Try.own started (by kernel_rfl) Try.func4
    (ChangeSpec.witness6 (enc := enc) (C := Try.checked) false ⟨#[], #[.agg #[.int .u8 0, .int .u8 0, .int .u8 0, .int .u8 0, .int .u8 0, .int .u8 0, .int .u8 0, .int .u8 0, .int .u8 0, .int .u8 0, .int .u8 0, .int .u8 0, .int .u8 0, .int .u8 0, .int .u8 0, .int .u8 0, .int .u8 0, .int .u8 0, .int .u8 0, .int .u8 0, .int .u8 0, .int .u8 0, .int .u8 0, .int .u8 0, .int .u8 0, .int .u8 0, .int .u8 0, .int .u8 0, .int .u8 0, .int .u8 0, .int .u8 0, .int .u8 0, .int .u8 0, .int .u8 0, .int .u8 0, .int .u8 0, .int .u8 0, .int .u8 0, .int .u8 0, .int .u8 0, .int .u8 0, .int .u8 0, .int .u8 0, .int .u8 0, .int .u8 0, .int .u8 0, .int .u8 0, .int .u8 0, .int .u8 0, .int .u8 0, .int .u8 0, .int .u8 0, .int .u8 0, .int .u8 0, .int .u8 0, .int .u8 0, .int .u8 0, .int .u8 0, .int .u8 0, .int .u8 0, .string (bs []), .bool false]], []⟩ 8 (by kernel_rfl) (by kernel_rfl) (by kernel_rfl) (by kernel_rfl)) ?_
  intro W base args ds gs before hval0 hW hcnd _
  have hval : ∀ (j : Nat) t v, Try.f4.params[j]? = some t → args[j]? = some v → Value.okWide Try.prog W .any base t v := hval0
  have hW' := hW
  obtain ⟨p, q, hA0, hV, rfl, hfz, hnd⟩ := hW
  have hA : DataW.TrodAll enc Try.prog W 0 (fun _ => true) true Try.f4.params.toList args.toList ds p := hA0
  rw [Try.params4] at hA hval
  obtain ⟨v0, d0, rfl, rfl, h0_⟩ := trodAll_one hA
  obtain ⟨rfl, rfl⟩ := trodVars_none hV
  obtain ⟨cp, K, J, N, X, share, rfl, hKb, c0, hJb, c1, hNb, c2, hX, c3, _, c4, cs_⟩ := real_open_ (hval 0 69 v0 rfl rfl) h0_
  obtain rfl := suf_all (suf_cons ((cn_size _ _).trans hKb.len) c0 (suf_cons ((cn_size _ _).trans hJb.len) c1 (suf_cons ((cn_size _ _).trans hNb.len) c2 (suf_two cs_ c3 c4))))
  refine (real_any K J N X share ⟨hKb.len, hKb.lt⟩ ⟨hJb.len, hJb.lt⟩ ⟨hNb.len, hNb.lt⟩ hX W).mono fun e W' ⟨he, hb⟩ => ?_
  subst he
  exact ⟨_, rfl, post_true Try.laidOut (by rw [Try.params4]; decide +kernel) rfl hW' rfl rfl rfl rfl Try.underlying4 hb⟩
theorem bookReal_holds : Rows.BookRealSaid :=
  OpenClaim.holds_of_wide 4 Try.f4 rfl rfl rfl rfl rfl rfl rfl ⟨rfl, rfl, rfl, rfl, rfl⟩ rfl rfl rfl rfl rfl (by kernel_rfl) Try.func4 (by kernel_rfl)
    (of_decide_eq_true (by kernel_rfl)) (by unfold Func.isWrapper; first | (rw [if_pos (by decide +kernel)]; kernel_rfl) | (rw [if_neg (by decide +kernel)]; exact ⟨rfl, rfl⟩))
    (fun os started H enc _ => bookreal_lifted os started H enc)
#print axioms bookReal_holds
end Go.Proofs.Ytniplfjnpjihoaa
