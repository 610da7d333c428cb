/- Lists by place; rows of texts; small laws that several layers want. -/
import Derived.Test.YtkpindnekaijfaaDoorEvI
namespace Go.Proofs.YtkpindnekaijfaaDoor
open Go.RowKit

/-- A row of m places, the first j of them told. -/
def genL (m : Nat) (f : Nat → Nat) (j : Nat) : List Nat := (List.range m).map fun i => if i < j then f i else 0
theorem genL_len (m : Nat) (f : Nat → Nat) (j : Nat) : (genL m f j).length = m := by simp [genL]
theorem genL_get (m : Nat) (f : Nat → Nat) (j : Nat) {i : Nat} (h : i < m) : (genL m f j).getD i 0 = if i < j then f i else 0 := by simp [genL, h]
theorem genL_zero (m : Nat) (f : Nat → Nat) : List.replicate m 0 = genL m f 0 := by
  refine ext_getD (by simp [genL]) fun i hi => ?_
  simp only [List.length_replicate] at hi
  rw [genL_get m f 0 hi, if_neg (by omega), List.getD_eq_getElem?_getD, List.getElem?_replicate, if_pos hi]; rfl
theorem genL_step (m : Nat) (f : Nat → Nat) (j : Nat) (h : j < m) {x : Nat} (hx : x = f j) : (genL m f j).set j x = genL m f (j + 1) := by
  subst hx
  refine ext_getD (by simp [genL]) fun i hi => ?_
  simp only [List.length_set, genL_len] at hi
  rw [getD_set, genL_get m f j hi, genL_get m f (j + 1) hi, genL_len]
  by_cases e : j = i
  · subst e; rw [if_pos ⟨rfl, h⟩, if_pos (by omega)]
  · rw [if_neg (by omega)]
    by_cases e2 : i < j
    · rw [if_pos e2, if_pos (by omega)]
    · rw [if_neg e2, if_neg (by omega)]
theorem genL_lt {m : Nat} {f : Nat → Nat} {B : Nat} (hB : 0 < B) (h : ∀ i, f i < B) (j i : Nat) : (genL m f j).getD i 0 < B := by
  rcases Nat.lt_or_ge i m with hi | hi
  · rw [genL_get m f j hi]; split
    · exact h i
    · exact hB
  · rw [List.getD_eq_getElem?_getD, List.getElem?_eq_none (by rw [genL_len]; exact hi)]; exact hB
theorem drop_lt {X : List Nat} {B m : Nat} (h : ∀ i, X.getD i 0 < B) (i : Nat) : (X.drop m).getD i 0 < B := by
  have := h (m + i)
  simpa only [List.getD_eq_getElem?_getD, List.getElem?_drop] using this
theorem take_lt {X : List Nat} {B m : Nat} (h : ∀ i, X.getD i 0 < B) (i : Nat) : (X.take m).getD i 0 < B := by
  have h0 : 0 < B := Nat.lt_of_le_of_lt (Nat.zero_le _) (h 0)
  simp only [List.getD_eq_getElem?_getD, List.getElem?_take]
  split
  · have := h i; rwa [List.getD_eq_getElem?_getD] at this
  · exact h0
theorem app_lt {X Y : List Nat} {B : Nat} (h : ∀ i, X.getD i 0 < B) (h' : ∀ i, Y.getD i 0 < B) (i : Nat) : (X ++ Y).getD i 0 < B := by
  rcases Nat.lt_or_ge i X.length with hi | hi
  · rw [getD_app_l _ _ _ hi]; exact h i
  · rw [getD_app_r _ _ _ hi]; exact h' _
theorem flat_lt {Ps : List (List Nat)} (h : ∀ X ∈ Ps, ∀ i, X.getD i 0 < 256) (i : Nat) : Ps.flatten.getD i 0 < 256 := by
  induction Ps generalizing i with
  | nil => simp
  | cons X Ps ih => rw [List.flatten_cons]; exact app_lt (h X (by simp)) (ih fun Y hY => h Y (by simp [hY])) i
theorem flat_take (Ps : List (List Nat)) (j : Nat) (h : j < Ps.length) : (Ps.take (j + 1)).flatten = (Ps.take j).flatten ++ Ps.getD j [] := by
  rw [List.take_add_one, List.flatten_append]
  simp [h]
theorem flat_le (Ps : List (List Nat)) (i : Nat) : (Ps.take i).flatten.length ≤ Ps.flatten.length := by
  conv => rhs; rw [← List.take_append_drop i Ps, List.flatten_append, List.length_append]
  omega
theorem lt1 {X : List Nat} (h : ∀ i, X.getD i 0 < 256) : ∀ Y ∈ [X], ∀ i, Y.getD i 0 < 256 := fun Y hY => by
  obtain rfl : Y = X := by simpa using hY
  exact h
theorem lt3 {X Y Z : List Nat} (h : ∀ i, X.getD i 0 < 256) (h2 : ∀ i, Y.getD i 0 < 256) (h3 : ∀ i, Z.getD i 0 < 256) : ∀ V ∈ [X, Y, Z], ∀ i, V.getD i 0 < 256 := fun V hV => by
  simp only [List.mem_cons, List.not_mem_nil, or_false] at hV
  rcases hV with rfl | rfl | rfl <;> assumption
theorem lit_lt {X : List Nat} (h : X.all (fun x => Nat.blt x 256) = true) (i : Nat) : X.getD i 0 < 256 := (bytes_of (n := X.length) rfl (by
  rw [List.all_eq_true] at h ⊢
  intro x hx
  have := h x hx
  simp [Nat.blt] at this ⊢
  omega)).lt i
theorem nil_lt (i : Nat) : ([] : List Nat).getD i 0 < 256 := by simp
theorem getD_out {X : List Nat} {i : Nat} (h : X.length ≤ i) : X.getD i 0 = 0 := by rw [List.getD_eq_getElem?_getD, List.getElem?_eq_none h]; rfl
theorem drop_min (X : List Nat) (m : Nat) : X.drop (min X.length m) = X.drop m := by
  rcases Nat.le_total X.length m with h | h
  · rw [Nat.min_eq_left h, List.drop_length, List.drop_eq_nil_of_le h]
  · rw [Nat.min_eq_right h]
theorem parts1 (X : List Nat) : ∀ j, j < [X].length → (#[.string (bs X)] : Array Value)[j]? = some (.string (bs ([X].getD j []))) := fun j h => by
  obtain rfl : j = 0 := by simpa using h
  rfl
theorem parts3 (X Y Z : List Nat) : ∀ j, j < [X, Y, Z].length → (#[.string (bs X), .string (bs Y), .string (bs Z)] : Array Value)[j]? = some (.string (bs ([X, Y, Z].getD j []))) := fun j h => by
  have : j = 0 ∨ j = 1 ∨ j = 2 := by simp at h; omega
  rcases this with rfl | rfl | rfl <;> rfl
/-- Strings, as values. -/
def strV (Ps : List (List Nat)) : List Value := Ps.map fun X => .string (bs X)
theorem strV_len (Ps : List (List Nat)) : (strV Ps).length = Ps.length * 1 := by simp [strV]
theorem strV_one (Ps : List (List Nat)) : ∀ u ∈ strV Ps, u.oneCell' = true := fun u hu => by
  obtain ⟨x, _, rfl⟩ := List.mem_map.1 hu; rfl
theorem strV_get (Ps : List (List Nat)) (j : Nat) (h : j < Ps.length) : (strV Ps)[j]? = some (.string (bs (Ps.getD j []))) := by simp [strV, h]
theorem own_cells {Ps : List (List Nat)} {cur : Array Value} (h : cur.toList.take (Ps.length * 1) = [] ++ strV Ps) : ∀ j, j < Ps.length → cur[j]? = some (.string (bs (Ps.getD j []))) := fun j hj => by
  have e := congrArg (fun l => l[j]?) h
  simp only [List.nil_append, Nat.mul_one] at e
  rw [List.getElem?_take, if_pos hj, strV_get Ps j hj] at e
  rw [show cur[j]? = cur.toList[j]? by simp, e]
theorem parts_at (Ps : List (List Nat)) {w : World} {pb off T9 : Nat} {fr : Nat × Nat} {cs : Array Value} (hp : ∀ j, j < Ps.length → cs[off + j]? = some (.string (bs (Ps.getD j [])))) (hb : w.heap[pb]? = some (.cells cs T9 fr)) :
    ∀ (j : Nat) u, (strV Ps)[j]? = some u → w.cell? ((⟨pb, off, none⟩ : Addr).add j) = some u := fun j u hu => by
  rcases Nat.lt_or_ge j Ps.length with h | h
  · rw [add_off, cell_of hb, hp j h, ← hu, strV_get Ps j h]
  · rw [List.getElem?_eq_none (by simp [strV]; exact h)] at hu; cases hu
theorem lies_cn8 {w : World} {b : Nat} {X : List Nat} {T : TypeId} {fr : Nat × Nat} (h : w.heap[b]? = some (.cells (cn .u8 X) T fr)) : ∀ (j : Nat) u, (bcells X)[j]? = some u → w.cell? ((⟨b, 0, none⟩ : Addr).add j) = some u := fun j u hu => by
  rw [add_off, cell_of h, ← hu, ← bcells_cn]; simp
theorem setFrom_new8 {A B : List Nat} (h : A.length = B.length) : setFrom (cn .u8 A) 0 (bcells B) = cn .u8 B := by
  have := setFrom_cat (Y := A) (Z := B) (d := #[]) (k := 0) (by omega)
  simpa [← h] using this
theorem make_ok {P : Program} {l : Slots} {L : Blks} {o : Oper} {t e : TypeId} {p q : Operand} {n : Nat} {k : IntKind} (ho : o.op = .makeSlice t p q) (hp : evO l p = some (.int k (n : Nat))) (hq : evO l q = some (.int k (n : Nat))) (hu : P.underlying t = some (.slice e))
    (hi : (P.info? e).map (fun i => (i.zero, i.size, i.bytes)) = some (some (.int .u8 0), 1, 1)) (hn : n ≤ 281474976710656) : RunN P l L o (mkOf (.slice none n n)) (.cells (cn .u8 (List.replicate n 0)) e) := fun ρ w A _ => by
  obtain ⟨i, hi, h2⟩ := Option.map_eq_some_iff.1 hi
  simp only [Prod.mk.injEq] at h2
  obtain ⟨s1, s2, s3⟩ := h2
  have h1 := A p _ hp
  have h3 := A q _ hq
  have hr := run_make (P := P) w t e i (.int .u8 0) hu hi s1 k k (n : Int) (n : Int) (by omega) (Int.le_refl _) (by rw [s3]; omega) (by omega)
  have hm : madeCells (Value.int .u8 0).cells ((n : Int).toNat * i.size) = cn .u8 (List.replicate n 0) := by
    apply Array.ext'
    rw [s2, Nat.mul_one, Int.toNat_natCast, show (Value.int .u8 0).cells = #[.int .u8 0] from rfl, toList_madeCells_one]
    simp [cn]
  rw [hm] at hr
  simp [execOp, ho, h1, h3, hr, mkOf]
theorem or_shl (k : Nat) {a b : Nat} (h : a < 2 ^ k) : a ||| b * 2 ^ k = a + b * 2 ^ k := by
  have := Nat.shiftLeft_add_eq_or_of_lt h b
  rw [Nat.shiftLeft_eq] at this
  rw [Nat.or_comm, ← this, Nat.add_comm]
/-- A row of which the places from s on are told anew, j of them. -/
def ovr (L : List Nat) (s : Nat) (f : Nat → Nat) (j : Nat) : List Nat := L.take s ++ (List.range j).map f ++ L.drop (s + j)
theorem ovr_len {L : List Nat} {s j n : Nat} (f : Nat → Nat) (hn : L.length = n) (h : s + j ≤ n) : (ovr L s f j).length = n := by simp [ovr]; omega
theorem ovr_zero (L : List Nat) (s : Nat) (f : Nat → Nat) : ovr L s f 0 = L := by simp [ovr]
theorem ovr_step {L : List Nat} {s j : Nat} (f : Nat → Nat) (h : s + j < L.length) {x : Nat} (hx : x = f j) : (ovr L s f j).set (s + j) x = ovr L s f (j + 1) := by
  subst hx
  have h1 : (L.take s ++ (List.range j).map f).length = s + j := by simp; omega
  unfold ovr
  rw [List.set_append_right _ _ (by omega), h1, Nat.sub_self, List.drop_eq_getElem_cons h, List.set_cons_zero, List.range_succ, List.map_append, ← List.append_assoc, List.append_assoc (_ ++ _)]
  rfl
theorem ovr_lt {L : List Nat} {s j B : Nat} {f : Nat → Nat} (h : ∀ i, L.getD i 0 < B) (hf : ∀ i, f i < B) (i : Nat) : (ovr L s f j).getD i 0 < B := by
  refine app_lt (app_lt (take_lt h) fun i => ?_) (drop_lt h) i
  rw [List.getD_eq_getElem?_getD]
  cases e : ((List.range j).map f)[i]? with
  | none => exact Nat.lt_of_le_of_lt (Nat.zero_le _) (h 0)
  | some x =>
    obtain ⟨k, _, rfl⟩ := List.mem_map.1 (List.mem_of_getElem? e)
    exact hf k
/-- The bits of a word, turned. -/
theorem compl_ok {P : Program} {l : Slots} {L : Blks} {o : Oper} {t : TypeId} {x : Operand} {m : Nat} (ho : o.op = .unOp .xor t x) (hx : evO l x = some (.int .u32 (m : Nat))) (hm : m < 4294967296) : RunV P l L o (.int .u32 ((4294967295 ^^^ m : Nat) : Int)) := fun ρ w Ag _ => by
  have e := Ag x _ hx
  have hl : (4294967295 ^^^ m) < 4294967296 := Nat.xor_lt_two_pow (n := 32) (by decide) hm
  have h1 : (Op.unary .xor (.int .u32 ((m : Nat) : Int))).run P w = .ok (.int .u32 ((4294967295 ^^^ m : Nat) : Int)) w := by
    have h2 := run_nat (P := P) (w := w) (t := t) (way := 0) (op := .xor) (k := .u32) (m := 4294967295) (n := m) (cs := [4294967295 < top .u32, m < top .u32]) rfl (by
      intro c hc
      simp only [List.mem_cons, List.not_mem_nil, or_false] at hc
      rcases hc with rfl | rfl
      · decide
      · exact hm)
    exact h2
  simp only [execOp, ho, e, Sem.run_bind, h1, Result.andThen_ok, Sem.run_pure]
/-- A whole number below nought, as a word of 64 bits. -/
theorem negconv_ok {P : Program} {l : Slots} {L : Blks} {o : Oper} {src dst : TypeId} {x : Operand} {n : Nat} {ds : TypeDesc} (ho : o.op = .convert src dst x) (hx : evO l x = some (.int .i64 (-((n : Nat) : Int)))) (hs : P.underlying src = some ds) (hd : P.underlying dst = some (.int .u64)) (h0 : 0 < n) (hn : n ≤ 18446744073709551616) : RunV P l L o (.int .u64 ((18446744073709551616 - n : Nat) : Int)) := fun ρ w Ag _ => by
  have e := Ag x _ hx
  have e2 : IntKind.u64.wrap (-((n : Nat) : Int)) = ((18446744073709551616 - n : Nat) : Int) := by
    rw [wrap_u .u64 _ rfl, show top .u64 = 18446744073709551616 from rfl]
    omega
  have hq : (convert src dst (.int .i64 (-((n : Nat) : Int)))).run P w = .ok (.int .u64 ((18446744073709551616 - n : Nat) : Int)) w := by
    cases ds <;> simp [convert, run_underlying hs, run_underlying hd, Conv.intToInt, e2]
  simp only [execOp, ho, e, Sem.run_bind, hq, Result.andThen_ok, Sem.run_pure]
end Go.Proofs.YtkpindnekaijfaaDoor
