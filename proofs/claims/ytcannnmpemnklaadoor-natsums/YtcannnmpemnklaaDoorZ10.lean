/- Several texts in one: The law NatRing. The law NatSums. The table of the powers of ten, as the text lays it. From a walk to a row: a law that returns true and writes nothing that was there; arrays of bytes that come in. A row of texts that comes in. Package-level tables of numbers: what the row says that they hold, as a block. -/
import Derived.Test.YtcannnmpemnklaaDoorZ9
import Derived.Test.YtcannnmpemnklaaDoorZ5
import Derived.Test.YtcannnmpemnklaaDoorRows
import Derived.WalkKit
import Derived.Test.YtcannnmpemnklaaDoorZ1
import Derived.Below
import Derived.ProofKit
import Derived.OpenShut
import Derived.ChangeOld
import Derived.Test.YtcannnmpemnklaaDoorZ3
import Derived.SliceStrings
import Derived.MakeChecks
import Derived.LaidMore
import Derived.LaidHandle
import Derived.Stop.Joined
namespace Go.Proofs.YtcannnmpemnklaaDoor
open Go.RowKit

/-- A row of numbers. -/
def RowIn (w : World) (p : Option Addr) (ns : List Nat) : Prop := ∃ xs, NatsIn w p ns xs
theorem row_st (ns : List Nat) : ∀ (v : Value) (w w' : World), RowIn w (pOf v) ns → Below w.heap.size w w' → RowIn w' (pOf v) ns := fun _ _ _ ⟨xs, h⟩ hb => ⟨xs, h.keep hb⟩
theorem nadd2r {p : Option Addr} (M N : Nat) (hs : M + N < 18446744073709551616 ^ 100) (w0 : World) (h : RowIn w0 p [M, N]) : Calls Tryd.prog 24 #[.slice p 2 2] w0 fun e w' => ∃ v, e = .returned (.agg #[nv (M + N) v]) ∧ Below w0.heap.size w0 w' ∧ NatNew w0.heap.size w' (nv (M + N) v) (M + N) := by
  obtain ⟨xs, h⟩ := h
  exact nadd_any p 2 [M, N] xs (qok (by simpa using hs)) (show 2 < 1000 by decide) w0 h
theorem nadd3r {p : Option Addr} (M N K : Nat) (hs : M + (N + K) < 18446744073709551616 ^ 100) (w0 : World) (h : RowIn w0 p [M, N, K]) : Calls Tryd.prog 24 #[.slice p 3 3] w0 fun e w' => ∃ v, e = .returned (.agg #[nv (M + (N + K)) v]) ∧ Below w0.heap.size w0 w' ∧ NatNew w0.heap.size w' (nv (M + (N + K)) v) (M + (N + K)) := by
  obtain ⟨xs, h⟩ := h
  exact nadd_any p 3 [M, N, K] xs (qok (by simpa using hs)) (show 3 < 1000 by decide) w0 h
theorem nmul2r {p : Option Addr} (M N : Nat) (hM : M < 18446744073709551616 ^ 100) (hN : N < 18446744073709551616 ^ 100) (w0 : World) (h : RowIn w0 p [M, N]) : Calls Tryd.prog 25 #[.slice p 2 2] w0 fun e w' => ∃ v, e = .returned (.agg #[nv (M * N) v]) ∧ Below w0.heap.size w0 w' ∧ NatNew w0.heap.size w' (nv (M * N) v) (M * N) := by
  obtain ⟨xs, h⟩ := h
  have h := nmul_any p 2 [M, N] xs (fun j hj => by
    have : j = 0 ∨ j = 1 := by simp at hj; omega
    rcases this with rfl | rfl
    · exact qok3 hM
    · exact qok3 hN) (show 2 ≤ 100 by decide) w0 h
  rw [prN2] at h
  exact h
theorem cmpN_is (M N : Nat) : cmpN M N = -1 ∨ cmpN M N = 0 ∨ cmpN M N = 1 := by
  unfold cmpN
  split
  · exact .inl rfl
  · split
    · exact .inr (.inl rfl)
    · exact .inr (.inr rfl)
theorem cmp_anti (M N : Nat) : cmpN M N = -cmpN N M := by
  rcases Nat.lt_trichotomy M N with h | h | h
  · rw [← cmpm h, ← cmp1 h]; rfl
  · rw [← cmp0 h, ← cmp0 h.symm]; rfl
  · rw [← cmpm h, ← cmp1 h]; rfl
theorem negZ_ok {P : Program} {l : Slots} {L : Blks} {o : Oper} {t : TypeId} {x : Operand} {z : Int} (ho : o.op = .unOp .neg t x) (hx : evO l x = some (.int .i64 z)) (hz : z = -1 ∨ z = 0 ∨ z = 1) : RunV P l L o (.int .i64 (-z)) := fun ρ w Ag _ => by
  have e := Ag x _ hx
  have h1 : (Op.unary .neg (.int .i64 z)).run P w = .ok (.int .i64 (-z)) w := by rcases hz with rfl | rfl | rfl <;> rfl
  simp only [execOp, ho, e, Sem.run_bind, h1, Result.andThen_ok, Sem.run_pure]
theorem sub_add (M N : Nat) : M + N - N = M := Nat.add_sub_cancel M N
theorem ge_cmp (M N : Nat) : decide (cmpN M N ≥ ((0 : Nat) : Int)) = decide (N ≤ M) := by
  rcases Nat.lt_or_ge M N with h | h
  · rw [decide_eq_false (cmp_lt0 h), decide_eq_false (Nat.not_le.2 h)]
  · rw [decide_eq_true (cmp_ge0 h), decide_eq_true h]
/-- A cell for a number, and a number, both new. -/
def CellNew (base : Nat) (w : World) (v : Value) (T : TypeId) : Prop := base ≤ gOf (pOf v) ∧ w.heap[gOf (pOf v)]? = some (.cells (#[.slice none 0 0] : Array Value) T)
theorem cell_st (base : Nat) (T : TypeId) : ∀ (v : Value) (w w' : World), CellNew base w v T → Below w.heap.size w w' → CellNew base w' v T := fun _ _ _ ⟨h1, h2⟩ hb => ⟨h1, (hb.block _ (lt_of_block h2)).trans h2⟩
theorem MemS.addCellNat {S : Nat → Prop} {w0 w w' : World} {K O : Blks} {R : List Row} {g N : Nat} {T : TypeId} {v : Value} {l : List (Value × Nat)} (M : MemS S w0 w (K ++ O) R) (M' : MemS S w0 w' (K ++ O) R) (hg : w.heap.size ≤ g) (hb : w'.heap[g]? = some (.cells (#[.slice none 0 0] : Array Value) T)) (hn : NatNew w.heap.size w' v N) (hN : Nats O l) :
    ∃ O', MemS S w0 w' ((g, .cells (#[.slice none 0 0] : Array Value) T) :: K ++ O') R ∧ Nats O' ((v, N) :: l) ∧ ∀ x ∈ O, x ∈ O' := by
  have Mg := M.addFresh M' hb hg
  have ho : ∀ g', v.ownBlock = some g' → ∀ x ∈ K ++ O, x.1 ≠ g' := fun g' hg' x hx => by have := lt_of_block (Has.mem M.hasL hx); have := hn.2 g' hg'; omega
  obtain ⟨O', h1, h2, h3⟩ := MemS.addNat (K := (g, .cells (#[.slice none 0 0] : Array Value) T) :: K) (O := O) Mg hn.1 (fun g' hg' x hx => by
      rcases List.mem_cons.1 hx with rfl | hx
      · rintro rfl
        obtain ⟨p, c, rfl, q1, q2, q3, q4⟩ := hn.1
        rcases q4 with q4 | ⟨b, cs, T', fr, rfl, q5, q6⟩
        · have hN0 : N = 0 := by
            rcases Nat.eq_zero_or_pos N with h | h
            · exact h
            · have := qsz_pos (N := N) (by omega); omega
          rw [(q1 hN0).1] at hg'
          cases hg'
        · have e : b = g := by simpa [Value.ownBlock] using hg'
          subst e
          rw [q5] at hb
          have h0 : 0 < qsz N := by
            rcases Nat.eq_zero_or_pos (qsz N) with h | h
            · have := (qsz_ok N).1
              rw [h] at this
              have hN0 : N = 0 := by simpa using this
              rw [(q1 hN0).1] at hg'
              cases hg'
            · exact h
          have h6 := q6 0 h0
          simp only [Option.some.injEq, Obj.cells.injEq] at hb
          rw [hb.1] at h6
          simp at h6
      · exact ho g' hg' x hx)
    (fun g' hg' hs => by have := M.old g' hs; have := M.size; have := hn.2 g' hg'; omega) (fun g' hg' r hr g'' hg'' => by have := (ownsRow_lt (M.rows r hr) hg'').2; have := hn.2 g' hg'; omega)
  exact ⟨O', h1, .cons h2 (hN.mono h3), h3⟩
theorem b60 : 256 ^ 60 = 2 ^ 480 := by decide +kernel
theorem add_b {a b k l : Nat} (ha : a < 2 ^ k) (hb : b < 2 ^ l) : a + b < 2 ^ (k + l + 1) := by
  have h1 : 2 ^ k ≤ 2 ^ (k + l) := Nat.pow_le_pow_right (by decide) (by omega)
  have h2 : 2 ^ l ≤ 2 ^ (k + l) := Nat.pow_le_pow_right (by decide) (by omega)
  have h3 : 2 ^ (k + l + 1) = 2 ^ (k + l) * 2 := Nat.pow_succ ..
  omega
theorem mul_b {a b k l : Nat} (ha : a < 2 ^ k) (hb : b < 2 ^ l) : a * b < 2 ^ (k + l) := by
  rw [Nat.pow_add]
  exact Nat.mul_lt_mul'' ha hb
theorem le_bK {a k K : Nat} (h : a < 2 ^ k) (hk : k ≤ 64 * K) : a < 18446744073709551616 ^ K := by
  rw [q_pow2]
  exact Nat.lt_of_lt_of_le h (Nat.pow_le_pow_right (by decide) hk)
theorem le_b {a k : Nat} (h : a < 2 ^ k) (hk : k ≤ 64 * 100) : a < 18446744073709551616 ^ 100 := le_bK h hk
theorem eqB_same {P : Program} {l : Slots} {L : Blks} {o : Oper} {p : Bool} (h : RunV P l L o (.bool (p == p))) : RunV P l L o (.bool true) := by rwa [beq_self_eq_true] at h
theorem of60 {a : Nat} (h : a < 256 ^ 60) : a < 2 ^ 480 := by rwa [← b60]
set_option maxRecDepth 100000 in
theorem natring_any (O : Blks) (hD : Distinct O) (hT : TabO O) (X Y Z : List Nat) (hX : ∀ i, X.getD i 0 < 256) (hY : ∀ i, Y.getD i 0 < 256) (hZ : ∀ i, Z.getD i 0 < 256) (hl : X.length < 9223372036854775808) (hl2 : Y.length < 9223372036854775808) (hl3 : Z.length < 9223372036854775808) (w0 : World) (H : Has w0 O) :
    Calls Tryd.prog 6 #[.string (bs X), .string (bs Y), .string (bs Z)] w0 fun e w' => e = .returned (.bool true) ∧ Below w0.heap.size w0 w' := by
  refine enter_fr Tryd.func6 rfl Tryd.ntmps6 (by simp) fun ac (FF : Fr 132 ac [(0, .string (bs X)), (1, .string (bs Y)), (2, .string (bs Z))]) => ?_
  have MM : MemS (fun k => k < w0.heap.size ∧ ∀ x ∈ O, x.1 ≠ k) w0 w0 O [] := MemS.startN H hD
  refine wp_seq (rg_seq FF MM [o_] [0, 1, 2, 6] (fun Kt => Kt [(6, .bool false), (0, .string (bs X)), (1, .string (bs Y)), (2, .string (bs Z))] O) (by kernel_rfl) (fun _ => by kernel_rfl) (fun ac1 wd1 FF1 MM1 => then_n ?_))
  refine wp_seq ?_
  by_cases h1 : X.length > 60
  · skip
    refine wp_seq (rg_seq FF1 MM1 [o_, t_ (.int .i64 (X.length : Nat)), w_ 2, o_, o_, o_, o_, o_, o_, o_, o_, o_, o_] [6, 0, 1, 2, 26] (fun Kt => Value.int .i64 ((bs X).size : Nat) = .int .i64 (X.length : Nat) ∧ X.length > 60 ∧ Kt [(26, .bool true), (6, .bool false), (0, .string (bs X)), (1, .string (bs Y)), (2, .string (bs Z))] O) (by kernel_rfl) (fun _ => by kernel_rfl) (⟨(vI (bs_size _)), h1, fun ac2 wd2 FF2 MM2 => then_n ?_⟩))
    refine wp_cond_true (FF2.ev 0 rfl) ?_
    refine wp_seq (rg_seq FF2 MM2 [u_ 1 (.bool true), o_] [6, 0, 1, 2] (fun Kt => CallP Tryd.prog 8 [] O (.bool true) ∧ Kt [(6, .bool true), (0, .string (bs X)), (1, .string (bs Y)), (2, .string (bs Z))] O) (by kernel_rfl) (fun _ => by kernel_rfl) (⟨⟨en_wakes, fun w Hw => wakes_w w (hT.at Hw)⟩, fun ac3 wd3 FF3 MM3 => then_n ?_⟩))
    refine wp_ret ?_
    repeat first | refine then_ret ?_ | refine inb_ret ?_
    exact (ret_fr FF3 0 Tryd.results6 rfl ⟨rfl, MM3.belowN H (fun _ hx => hx)⟩)
  · by_cases h2 : Y.length > 60
    · skip
      refine wp_seq (rg_seq FF1 MM1 [o_, t_ (.int .i64 (X.length : Nat)), w_ 3, o_, o_, t_ (.int .i64 (Y.length : Nat)), w_ 2, o_, o_, o_, o_, o_, o_] [6, 0, 1, 2, 26] (fun Kt => Value.int .i64 ((bs X).size : Nat) = .int .i64 (X.length : Nat) ∧ ¬ (X.length > 60) ∧ Value.int .i64 ((bs Y).size : Nat) = .int .i64 (Y.length : Nat) ∧ Y.length > 60 ∧ Kt [(26, .bool true), (6, .bool false), (0, .string (bs X)), (1, .string (bs Y)), (2, .string (bs Z))] O) (by kernel_rfl) (fun _ => by kernel_rfl) (⟨(vI (bs_size _)), h1, (vI (bs_size _)), h2, fun ac4 wd4 FF4 MM4 => then_n ?_⟩))
      refine wp_cond_true (FF4.ev 0 rfl) ?_
      refine wp_seq (rg_seq FF4 MM4 [u_ 1 (.bool true), o_] [6, 0, 1, 2] (fun Kt => CallP Tryd.prog 8 [] O (.bool true) ∧ Kt [(6, .bool true), (0, .string (bs X)), (1, .string (bs Y)), (2, .string (bs Z))] O) (by kernel_rfl) (fun _ => by kernel_rfl) (⟨⟨en_wakes, fun w Hw => wakes_w w (hT.at Hw)⟩, fun ac5 wd5 FF5 MM5 => then_n ?_⟩))
      refine wp_ret ?_
      repeat first | refine then_ret ?_ | refine inb_ret ?_
      exact (ret_fr FF5 0 Tryd.results6 rfl ⟨rfl, MM5.belowN H (fun _ hx => hx)⟩)
    · by_cases h3 : Z.length > 60
      · skip
        refine wp_seq (rg_seq FF1 MM1 [o_, t_ (.int .i64 (X.length : Nat)), w_ 3, o_, o_, t_ (.int .i64 (Y.length : Nat)), w_ 3, o_, o_, o_, t_ (.int .i64 (Z.length : Nat)), w_ 2, o_] [6, 0, 1, 2, 26] (fun Kt => Value.int .i64 ((bs X).size : Nat) = .int .i64 (X.length : Nat) ∧ ¬ (X.length > 60) ∧ Value.int .i64 ((bs Y).size : Nat) = .int .i64 (Y.length : Nat) ∧ ¬ (Y.length > 60) ∧ Value.int .i64 ((bs Z).size : Nat) = .int .i64 (Z.length : Nat) ∧ Z.length > 60 ∧ Kt [(26, .bool true), (6, .bool false), (0, .string (bs X)), (1, .string (bs Y)), (2, .string (bs Z))] O) (by kernel_rfl) (fun _ => by kernel_rfl) (⟨(vI (bs_size _)), h1, (vI (bs_size _)), h2, (vI (bs_size _)), h3, fun ac6 wd6 FF6 MM6 => then_n ?_⟩))
        refine wp_cond_true (FF6.ev 0 rfl) ?_
        refine wp_seq (rg_seq FF6 MM6 [u_ 1 (.bool true), o_] [6, 0, 1, 2] (fun Kt => CallP Tryd.prog 8 [] O (.bool true) ∧ Kt [(6, .bool true), (0, .string (bs X)), (1, .string (bs Y)), (2, .string (bs Z))] O) (by kernel_rfl) (fun _ => by kernel_rfl) (⟨⟨en_wakes, fun w Hw => wakes_w w (hT.at Hw)⟩, fun ac7 wd7 FF7 MM7 => then_n ?_⟩))
        refine wp_ret ?_
        repeat first | refine then_ret ?_ | refine inb_ret ?_
        exact (ret_fr FF7 0 Tryd.results6 rfl ⟨rfl, MM7.belowN H (fun _ hx => hx)⟩)
      · skip
        have bX := leV_60 hX (Nat.not_lt.1 h1)
        have bY := leV_60 hY (Nat.not_lt.1 h2)
        have bZ := leV_60 hZ (Nat.not_lt.1 h3)
        refine wp_seq (rg_seq FF1 MM1 [o_, t_ (.int .i64 (X.length : Nat)), w_ 3, o_, o_, t_ (.int .i64 (Y.length : Nat)), w_ 3, o_, o_, o_, t_ (.int .i64 (Z.length : Nat)), w_ 3, o_] [6, 0, 1, 2, 26] (fun Kt => Value.int .i64 ((bs X).size : Nat) = .int .i64 (X.length : Nat) ∧ ¬ (X.length > 60) ∧ Value.int .i64 ((bs Y).size : Nat) = .int .i64 (Y.length : Nat) ∧ ¬ (Y.length > 60) ∧ Value.int .i64 ((bs Z).size : Nat) = .int .i64 (Z.length : Nat) ∧ ¬ (Z.length > 60) ∧ Kt [(26, .bool false), (6, .bool false), (0, .string (bs X)), (1, .string (bs Y)), (2, .string (bs Z))] O) (by kernel_rfl) (fun _ => by kernel_rfl) (⟨(vI (bs_size _)), h1, (vI (bs_size _)), h2, (vI (bs_size _)), h3, fun ac8 wd8 FF8 MM8 => then_n ?_⟩))
        refine wp_cond_false (FF8.ev 0 rfl) ?_
        refine wp_skip ?_
        refine then_n ?_
        refine wp_seq (wp_region_list ?_)
        refine rg_part 1 FF8 MM8 [o_] [6, 0, 1, 2, 28] (fun Kt => Kt [(28, .string (bs X)), (6, .bool false), (0, .string (bs X)), (1, .string (bs Y)), (2, .string (bs Z))] O) (by kernel_rfl) (fun _ => by kernel_rfl) (fun ac9 wd9 FF9 MM9 => ?_)
        refine st_callE [6, 0, 1, 2, 29] FF9 (d := 29) (mk := fun v => .agg #[nv (leV X) v]) en_nbytes rfl rfl (nbytes_any X hX (by omega) _) rfl (by kernel_rfl) (by decide) fun ac11 wd11 lv10 (FF11 : Fr 132 ac11 [(29, .agg (#[nv (leV X) lv10] : Array Value)), (6, .bool false), (0, .string (bs X)), (1, .string (bs Y)), (2, .string (bs Z))]) hr12 => ?_
        obtain ⟨O13, MM140, hN15, hs16⟩ := MemS.addNats (K := []) (O := O) MM9 hr12.1 hr12.2 (Nats.nil O)
        have MM14 : MemS (fun k => k < w0.heap.size ∧ ∀ x ∈ O, x.1 ≠ k) w0 wd11 O13 [] := MM140
        have hT_17 := hT.mono hs16
        refine rg_part 1 FF11 MM14 [o_] [29, 6, 0, 1, 2, 30] (fun Kt => Kt [(30, .string (bs Y)), (29, .agg (#[nv (leV X) lv10] : Array Value)), (6, .bool false), (0, .string (bs X)), (1, .string (bs Y)), (2, .string (bs Z))] O13) (by kernel_rfl) (fun _ => by kernel_rfl) (fun ac18 wd18 FF18 MM18 => ?_)
        refine st_callE [29, 6, 0, 1, 2, 31] FF18 (d := 31) (mk := fun v => .agg #[nv (leV Y) v]) en_nbytes rfl rfl (nbytes_any Y hY (by omega) _) rfl (by kernel_rfl) (by decide) fun ac20 wd20 lv19 (FF20 : Fr 132 ac20 [(31, .agg (#[nv (leV Y) lv19] : Array Value)), (29, .agg (#[nv (leV X) lv10] : Array Value)), (6, .bool false), (0, .string (bs X)), (1, .string (bs Y)), (2, .string (bs Z))]) hr21 => ?_
        obtain ⟨O22, MM230, hN24, hs25⟩ := MemS.addNats (K := []) (O := O13) MM18 hr21.1 hr21.2 hN15
        have MM23 : MemS (fun k => k < w0.heap.size ∧ ∀ x ∈ O, x.1 ≠ k) w0 wd20 O22 [] := MM230
        have hT_26 := hT_17.mono hs25
        have hz27 : ∀ x ∈ O, x ∈ O22 := fun x hx => hs25 x (hs16 x hx)
        refine rg_part 1 FF20 MM23 [o_] [31, 29, 6, 0, 1, 2, 32] (fun Kt => Kt [(32, .string (bs Z)), (31, .agg (#[nv (leV Y) lv19] : Array Value)), (29, .agg (#[nv (leV X) lv10] : Array Value)), (6, .bool false), (0, .string (bs X)), (1, .string (bs Y)), (2, .string (bs Z))] O22) (by kernel_rfl) (fun _ => by kernel_rfl) (fun ac28 wd28 FF28 MM28 => ?_)
        refine st_callE [31, 29, 6, 0, 1, 2, 33] FF28 (d := 33) (mk := fun v => .agg #[nv (leV Z) v]) en_nbytes rfl rfl (nbytes_any Z hZ (by omega) _) rfl (by kernel_rfl) (by decide) fun ac30 wd30 lv29 (FF30 : Fr 132 ac30 [(33, .agg (#[nv (leV Z) lv29] : Array Value)), (31, .agg (#[nv (leV Y) lv19] : Array Value)), (29, .agg (#[nv (leV X) lv10] : Array Value)), (6, .bool false), (0, .string (bs X)), (1, .string (bs Y)), (2, .string (bs Z))]) hr31 => ?_
        obtain ⟨O32, MM330, hN34, hs35⟩ := MemS.addNats (K := []) (O := O22) MM28 hr31.1 hr31.2 hN24
        have MM33 : MemS (fun k => k < w0.heap.size ∧ ∀ x ∈ O, x.1 ≠ k) w0 wd30 O32 [] := MM330
        have hT_36 := hT_26.mono hs35
        have hz37 : ∀ x ∈ O, x ∈ O32 := fun x hx => hs35 x (hz27 x hx)
        refine rg_part 6 FF30 MM33 [o_, o_, o_, b_ 2, b_ 1, b_ 0] [6, 0, 1, 2, 7, 8, 9] (fun Kt => ∀ bx, ∀ by_, ∀ bz, bx = bx ∧ (#[.slice none 0 0] : Array Value).size = 1 ∧ (#[nv (leV X) lv10] : Array Value).size = 1 ∧ (#[nv (leV X) lv10] : Array Value).all (·.oneCell') = true ∧ (0, 0).2 = 0 ∧ by_ = by_ ∧ (#[.slice none 0 0] : Array Value).size = 1 ∧ (#[nv (leV Y) lv19] : Array Value).size = 1 ∧ (#[nv (leV Y) lv19] : Array Value).all (·.oneCell') = true ∧ (0, 0).2 = 0 ∧ bz = bz ∧ (#[.slice none 0 0] : Array Value).size = 1 ∧ (#[nv (leV Z) lv29] : Array Value).size = 1 ∧ (#[nv (leV Z) lv29] : Array Value).all (·.oneCell') = true ∧ (0, 0).2 = 0 ∧ Kt [(9, .pointer (some ⟨bz, 0, none⟩)), (8, .pointer (some ⟨by_, 0, none⟩)), (7, .pointer (some ⟨bx, 0, none⟩)), (6, .bool false), (0, .string (bs X)), (1, .string (bs Y)), (2, .string (bs Z))] ((bz, .cells (#[nv (leV Z) lv29] : Array Value) 27) :: (by_, .cells (#[nv (leV Y) lv19] : Array Value) 27) :: (bx, .cells (#[nv (leV X) lv10] : Array Value) 27) :: O32)) (by kernel_rfl) (fun _ => by kernel_rfl) (fun bx => fun by_ => fun bz => ⟨rfl, rfl, rfl, (by kernel_rfl), rfl, rfl, rfl, rfl, (by kernel_rfl), rfl, rfl, rfl, rfl, (by kernel_rfl), rfl, fun ac38 wd38 FF38 MM38 => ?_⟩)
        refine wpl_nil (then_n ?_)
        refine wp_seq (rg_predL 8 34 1 (.bool true) FF38 MM38 [.inl (.agg (#[nv (leV X) lv10] : Array Value)), .inl (.agg (#[nv (leV Y) lv19] : Array Value)), (.inr (fun v => .slice (pOf v) 2 2, fun v w => RowIn w (pOf v) [leV X, leV Y]) : Spec), (.inr (fun v => .agg #[nv ((leV X) + (leV Y)) v], fun v w => NatNew wd38.heap.size w (nv ((leV X) + (leV Y)) v) ((leV X) + (leV Y))) : Spec), .inl (.agg (#[nv (leV Y) lv19] : Array Value)), (.inr (fun v => .tuple #[.agg #[nv (((leV X) + (leV Y)) - (leV Y)) v], .bool true], fun v w => NatNew wd38.heap.size w (nv (((leV X) + (leV Y)) - (leV Y)) v) (((leV X) + (leV Y)) - (leV Y))) : Spec), (.inr (fun v => .tuple #[.agg (#[nv (((leV X) + (leV Y)) - (leV Y)) v] : Array Value), .bool true], fun v w => NatNew wd38.heap.size w (nv (((leV X) + (leV Y)) - (leV Y)) v) (((leV X) + (leV Y)) - (leV Y))) : Spec), (.inr (fun v => .agg (#[nv (((leV X) + (leV Y)) - (leV Y)) v] : Array Value), fun v w => NatNew wd38.heap.size w (nv (((leV X) + (leV Y)) - (leV Y)) v) (((leV X) + (leV Y)) - (leV Y))) : Spec), .inl (.bool true), (.inr (fun v => .pointer (some ⟨gOf (pOf v), 0, none⟩), fun v w => CellNew wd38.heap.size w v 27) : Spec)] [some (b_ 2), some (b_ 1), some (o_), none, some (b_ 1), none, some (o_), some (o_), some (o_), some (o_)] [10, 42, 41, 9, 8, 7, 6, 0, 1, 2] (fun lx wq => [(bx = bx ∧ (#[nv (leV X) lv10] : Array Value).size = 1 ∧ Value.agg (#[nv (leV X) lv10] : Array Value) = .agg (#[nv (leV X) lv10] : Array Value)), (by_ = by_ ∧ (#[nv (leV Y) lv19] : Array Value).size = 1 ∧ Value.agg (#[nv (leV Y) lv19] : Array Value) = .agg (#[nv (leV Y) lv19] : Array Value)), ((∀ w', Below wq.heap.size wq w' → w'.heap[wq.heap.size]? = some (.cells (#[nv (leV X) lv10, nv (leV Y) lv19] : Array Value) 27) → ∃ y, Value.slice (some ⟨wq.heap.size, 0, none⟩) 2 2 = (fun v => .slice (pOf v) 2 2) y ∧ RowIn w' (pOf y) [leV X, leV Y])), (RowIn wq (pOf (lx 2)) [leV X, leV Y] → CallQ Tryd.prog 24 [.slice (pOf (lx 2)) 2 2] wq (.inr (fun v => .agg #[nv ((leV X) + (leV Y)) v], fun v w => NatNew wd38.heap.size w (nv ((leV X) + (leV Y)) v) ((leV X) + (leV Y))) : Spec)), (by_ = by_ ∧ (#[nv (leV Y) lv19] : Array Value).size = 1 ∧ Value.agg (#[nv (leV Y) lv19] : Array Value) = .agg (#[nv (leV Y) lv19] : Array Value)), (NatNew wd38.heap.size wq (nv ((leV X) + (leV Y)) (lx 3)) ((leV X) + (leV Y)) → NatNew wd38.heap.size wq (nv ((leV X) + (leV Y)) (lx 3)) ((leV X) + (leV Y)) → CallQ Tryd.prog 26 [.agg (#[nv ((leV X) + (leV Y)) (lx 3)] : Array Value), .agg (#[nv (leV Y) lv19] : Array Value)] wq (.inr (fun v => .tuple #[.agg #[nv (((leV X) + (leV Y)) - (leV Y)) v], .bool true], fun v w => NatNew wd38.heap.size w (nv (((leV X) + (leV Y)) - (leV Y)) v) (((leV X) + (leV Y)) - (leV Y))) : Spec)), (NatNew wd38.heap.size wq (nv (((leV X) + (leV Y)) - (leV Y)) (lx 5)) (((leV X) + (leV Y)) - (leV Y)) → ∃ y, Value.tuple #[.agg (#[nv (((leV X) + (leV Y)) - (leV Y)) (lx 5)] : Array Value), .bool true] = (fun v => .tuple #[.agg (#[nv (((leV X) + (leV Y)) - (leV Y)) v] : Array Value), .bool true]) y ∧ NatNew wd38.heap.size wq (nv (((leV X) + (leV Y)) - (leV Y)) y) (((leV X) + (leV Y)) - (leV Y))), (NatNew wd38.heap.size wq (nv (((leV X) + (leV Y)) - (leV Y)) (lx 6)) (((leV X) + (leV Y)) - (leV Y)) → ∃ y, Value.agg (#[nv (((leV X) + (leV Y)) - (leV Y)) (lx 6)] : Array Value) = (fun v => .agg (#[nv (((leV X) + (leV Y)) - (leV Y)) v] : Array Value)) y ∧ NatNew wd38.heap.size wq (nv (((leV X) + (leV Y)) - (leV Y)) y) (((leV X) + (leV Y)) - (leV Y))), (NatNew wd38.heap.size wq (nv (((leV X) + (leV Y)) - (leV Y)) (lx 6)) (((leV X) + (leV Y)) - (leV Y)) → Value.bool true = .bool true), ((∀ w', Below wq.heap.size wq w' → w'.heap[wq.heap.size]? = some (.cells (#[.slice none 0 0] : Array Value) 27) → ∃ y, Value.pointer (some ⟨wq.heap.size, 0, none⟩) = (fun v => .pointer (some ⟨gOf (pOf v), 0, none⟩)) y ∧ CellNew wd38.heap.size w' y 27))]) (fun lx => [(10, .pointer (some ⟨(gOf (pOf (lx 9))), 0, none⟩)), (42, .bool true), (41, .agg (#[nv (((leV X) + (leV Y)) - (leV Y)) (lx 7)] : Array Value)), (9, .pointer (some ⟨bz, 0, none⟩)), (8, .pointer (some ⟨by_, 0, none⟩)), (7, .pointer (some ⟨bx, 0, none⟩)), (6, .bool false), (0, .string (bs X)), (1, .string (bs Y)), (2, .string (bs Z))]) (by kernel_rfl) (by kernel_rfl) (by kernel_rfl) (by kernel_rfl) (by kernel_rfl) (fun _ _ _ _ _ h => h) (by kernel_rfl) rfl (j := 6) (by kernel_rfl) (by kernel_rfl) rfl (fun _ => ⟨_, rfl, rfl⟩) ⟨(row_st [leV X, leV Y]), (fun v w w1 => natNew_st _ _ (nv _ v) w w1), (fun v w w1 => natNew_st _ _ (nv _ v) w w1), (fun v w w1 => natNew_st _ _ (nv _ v) w w1), (fun v w w1 => natNew_st _ _ (nv _ v) w w1), (cell_st _ 27), trivial⟩ (fun _ _ => by kernel_rfl) (fun _ => by kernel_rfl) (fun lx wq hB9 hH9 => ⟨(⟨rfl, rfl, rfl⟩), (⟨rfl, rfl, rfl⟩), (fun w' hb hh => ⟨.slice (some ⟨wq.heap.size, 0, none⟩) 2 2, rfl, _, nats2 hh (((hN34.get 2 rfl).at (Has.tl (Has.tl (Has.tl hH9)))).keep hb) (((hN34.get 1 rfl).at (Has.tl (Has.tl (Has.tl hH9)))).keep hb)⟩), (fun h2_0 => ⟨en_nadd, (nadd2r (leV X) (leV Y) (le_b (add_b (of60 bX) (of60 bY)) (by decide)) wq h2_0).mono fun _ _ ⟨v, h1, h2, h3⟩ => ⟨v, h1, h2, h3.mono hB9.size⟩⟩), (⟨rfl, rfl, rfl⟩), (fun h3_0 h3_1 => ⟨en_nsub, (nsub_any ((leV X) + (leV Y)) (leV Y) (lx 3) lv19 (qok (le_b (add_b (of60 bX) (of60 bY)) (by decide))) wq h3_1.1 ((hN34.get 1 rfl).at (Has.tl (Has.tl (Has.tl hH9))))).mono fun _ _ ⟨v, h1, h2, h3⟩ => ⟨v, h1.trans (by rw [decide_eq_true (Nat.le_add_left ..)]; rfl), h2, h3.mono hB9.size⟩⟩), (fun h5_0 => ⟨(lx 5), rfl, h5_0⟩), (fun h6_0 => ⟨(lx 6), rfl, h6_0⟩), (fun h6_0 => rfl), (fun w' hb hh => ⟨.slice (some ⟨wq.heap.size, 0, none⟩) 0 0, rfl, hB9.size, hh⟩), trivial⟩) (fun lx ac39 wd39 hx40 hB41 FF39 MM39 => ?_))
        obtain ⟨hl2, hl3, hl5, hl6, hl7, hl9, -⟩ := hx40
        generalize lx 2 = lv42 at *
        generalize lx 3 = lv43 at *
        generalize lx 5 = lv44 at *
        generalize lx 6 = lv45 at *
        generalize lx 7 = lv46 at *
        generalize lx 9 = lv47 at *
        obtain ⟨O48, MM490, hN50, hs51⟩ := MemS.addCellNat (K := [(bz, .cells (#[nv (leV Z) lv29] : Array Value) 27), (by_, .cells (#[nv (leV Y) lv19] : Array Value) 27), (bx, .cells (#[nv (leV X) lv10] : Array Value) 27)]) (O := O32) MM38 MM39 hl9.1 hl9.2 hl7 hN34
        have MM49 : MemS (fun k => k < w0.heap.size ∧ ∀ x ∈ O, x.1 ≠ k) w0 wd39 (((gOf (pOf lv47)), .cells (#[.slice none 0 0] : Array Value) 27) :: (bz, .cells (#[nv (leV Z) lv29] : Array Value) 27) :: (by_, .cells (#[nv (leV Y) lv19] : Array Value) 27) :: (bx, .cells (#[nv (leV X) lv10] : Array Value) 27) :: O48) [] := MM490
        have hT52 := hT_36.mono hs51
        have hz53 : ∀ x ∈ O, x ∈ O48 := fun x hx => hs51 x (hz37 x hx)
        generalize (gOf (pOf lv47)) = gd at *
        refine rg_part 2 FF39 MM49 [b_ 0, o_] [9, 8, 7, 6, 0, 1, 2, 10, 11] (fun Kt => gd = gd ∧ (#[.slice none 0 0] : Array Value).size = 1 ∧ (#[nv (((leV X) + (leV Y)) - (leV Y)) lv46] : Array Value).size = 1 ∧ (#[nv (((leV X) + (leV Y)) - (leV Y)) lv46] : Array Value).all (·.oneCell') = true ∧ (0, 0).2 = 0 ∧ Kt [(11, .bool true), (10, .pointer (some ⟨gd, 0, none⟩)), (9, .pointer (some ⟨bz, 0, none⟩)), (8, .pointer (some ⟨by_, 0, none⟩)), (7, .pointer (some ⟨bx, 0, none⟩)), (6, .bool false), (0, .string (bs X)), (1, .string (bs Y)), (2, .string (bs Z))] ((gd, .cells (#[nv (((leV X) + (leV Y)) - (leV Y)) lv46] : Array Value) 27) :: (bz, .cells (#[nv (leV Z) lv29] : Array Value) 27) :: (by_, .cells (#[nv (leV Y) lv19] : Array Value) 27) :: (bx, .cells (#[nv (leV X) lv10] : Array Value) 27) :: O48)) (by kernel_rfl) (fun _ => by kernel_rfl) (⟨rfl, rfl, rfl, (by kernel_rfl), rfl, fun ac54 wd54 FF54 MM54 => ?_⟩)
        refine wpl_nil (then_n ?_)
        refine wp_seq (wp_region_list ?_)
        refine rg_part 2 FF54 MM54 [b_ 3, b_ 2] [11, 10, 9, 8, 7, 6, 0, 1, 2, 44, 45] (fun Kt => bx = bx ∧ (#[nv (leV X) lv10] : Array Value).size = 1 ∧ by_ = by_ ∧ (#[nv (leV Y) lv19] : Array Value).size = 1 ∧ Kt [(45, .agg (#[nv (leV Y) lv19] : Array Value)), (44, .agg (#[nv (leV X) lv10] : Array Value)), (11, .bool true), (10, .pointer (some ⟨gd, 0, none⟩)), (9, .pointer (some ⟨bz, 0, none⟩)), (8, .pointer (some ⟨by_, 0, none⟩)), (7, .pointer (some ⟨bx, 0, none⟩)), (6, .bool false), (0, .string (bs X)), (1, .string (bs Y)), (2, .string (bs Z))] ((gd, .cells (#[nv (((leV X) + (leV Y)) - (leV Y)) lv46] : Array Value) 27) :: (bz, .cells (#[nv (leV Z) lv29] : Array Value) 27) :: (by_, .cells (#[nv (leV Y) lv19] : Array Value) 27) :: (bx, .cells (#[nv (leV X) lv10] : Array Value) 27) :: O48)) (by kernel_rfl) (fun _ => by kernel_rfl) (⟨rfl, rfl, rfl, rfl, fun ac55 wd55 FF55 MM55 => ?_⟩)
        refine st_callE [11, 10, 9, 8, 7, 6, 0, 1, 2, 46] FF55 (d := 46) (mk := fun v => .tuple #[.agg #[nv ((leV X) - (leV Y)) v], .bool (decide ((leV Y) ≤ (leV X)))]) en_nsub rfl rfl (nsub_any (leV X) (leV Y) lv10 lv19 (qok (le_b (of60 bX) (by decide))) _ ((hN50.get 3 rfl).at (Has.tl (Has.tl (Has.tl (Has.tl MM55.hasL))))) ((hN50.get 2 rfl).at (Has.tl (Has.tl (Has.tl (Has.tl MM55.hasL)))))) rfl (by kernel_rfl) (by decide) fun ac57 wd57 lv56 (FF57 : Fr 132 ac57 [(46, .tuple #[.agg (#[nv ((leV X) - (leV Y)) lv56] : Array Value), .bool (decide ((leV Y) ≤ (leV X)))]), (11, .bool true), (10, .pointer (some ⟨gd, 0, none⟩)), (9, .pointer (some ⟨bz, 0, none⟩)), (8, .pointer (some ⟨by_, 0, none⟩)), (7, .pointer (some ⟨bx, 0, none⟩)), (6, .bool false), (0, .string (bs X)), (1, .string (bs Y)), (2, .string (bs Z))]) hr58 => ?_
        obtain ⟨O59, MM600, hN61, hs62⟩ := MemS.addNats (K := [(gd, .cells (#[nv (((leV X) + (leV Y)) - (leV Y)) lv46] : Array Value) 27), (bz, .cells (#[nv (leV Z) lv29] : Array Value) 27), (by_, .cells (#[nv (leV Y) lv19] : Array Value) 27), (bx, .cells (#[nv (leV X) lv10] : Array Value) 27)]) (O := O48) MM55 hr58.1 hr58.2 hN50
        have MM60 : MemS (fun k => k < w0.heap.size ∧ ∀ x ∈ O, x.1 ≠ k) w0 wd57 ((gd, .cells (#[nv (((leV X) + (leV Y)) - (leV Y)) lv46] : Array Value) 27) :: (bz, .cells (#[nv (leV Z) lv29] : Array Value) 27) :: (by_, .cells (#[nv (leV Y) lv19] : Array Value) 27) :: (bx, .cells (#[nv (leV X) lv10] : Array Value) 27) :: O59) [] := MM600
        have hT_63 := hT52.mono hs62
        have hz64 : ∀ x ∈ O, x ∈ O59 := fun x hx => hs62 x (hz53 x hx)
        refine rg_part 6 FF57 MM60 [o_, o_, o_, o_, b_ 0, o_] [11, 10, 9, 8, 7, 6, 0, 1, 2, 13] (fun Kt => ∀ be, be = be ∧ (#[.slice none 0 0] : Array Value).size = 1 ∧ (#[nv ((leV X) - (leV Y)) lv56] : Array Value).size = 1 ∧ (#[nv ((leV X) - (leV Y)) lv56] : Array Value).all (·.oneCell') = true ∧ (0, 0).2 = 0 ∧ Kt [(13, .bool (decide ((leV Y) ≤ (leV X)))), (11, .bool true), (10, .pointer (some ⟨gd, 0, none⟩)), (9, .pointer (some ⟨bz, 0, none⟩)), (8, .pointer (some ⟨by_, 0, none⟩)), (7, .pointer (some ⟨bx, 0, none⟩)), (6, .bool false), (0, .string (bs X)), (1, .string (bs Y)), (2, .string (bs Z))] ((be, .cells (#[nv ((leV X) - (leV Y)) lv56] : Array Value) 27) :: (gd, .cells (#[nv (((leV X) + (leV Y)) - (leV Y)) lv46] : Array Value) 27) :: (bz, .cells (#[nv (leV Z) lv29] : Array Value) 27) :: (by_, .cells (#[nv (leV Y) lv19] : Array Value) 27) :: (bx, .cells (#[nv (leV X) lv10] : Array Value) 27) :: O59)) (by kernel_rfl) (fun _ => by kernel_rfl) (fun be => ⟨rfl, rfl, rfl, (by kernel_rfl), rfl, fun ac65 wd65 FF65 MM65 => ?_⟩)
        refine wpl_nil (then_n ?_)
        refine wp_seq (rg_pred FF65 MM65 [.inl (.agg (#[nv (leV X) lv10] : Array Value)), .inl (.agg (#[nv (leV Y) lv19] : Array Value)), .inl (.agg (#[nv (leV Z) lv29] : Array Value)), (.inr (fun v => .slice (pOf v) 2 2, fun v w => RowIn w (pOf v) [leV Y, leV Z]) : Spec), (.inr (fun v => .agg #[nv ((leV Y) + (leV Z)) v], fun v w => NatNew wd65.heap.size w (nv ((leV Y) + (leV Z)) v) ((leV Y) + (leV Z))) : Spec), (.inr (fun v => .slice (pOf v) 2 2, fun v w => RowIn w (pOf v) [leV X, (leV Y) + (leV Z)]) : Spec), (.inr (fun v => .agg #[nv ((leV X) * ((leV Y) + (leV Z))) v], fun v w => NatNew wd65.heap.size w (nv ((leV X) * ((leV Y) + (leV Z))) v) ((leV X) * ((leV Y) + (leV Z)))) : Spec), .inl (.agg (#[nv (leV X) lv10] : Array Value)), .inl (.agg (#[nv (leV Y) lv19] : Array Value)), (.inr (fun v => .slice (pOf v) 2 2, fun v w => RowIn w (pOf v) [leV X, leV Y]) : Spec), (.inr (fun v => .agg #[nv ((leV X) * (leV Y)) v], fun v w => NatNew wd65.heap.size w (nv ((leV X) * (leV Y)) v) ((leV X) * (leV Y))) : Spec), .inl (.agg (#[nv (leV X) lv10] : Array Value)), .inl (.agg (#[nv (leV Z) lv29] : Array Value)), (.inr (fun v => .slice (pOf v) 2 2, fun v w => RowIn w (pOf v) [leV X, leV Z]) : Spec), (.inr (fun v => .agg #[nv ((leV X) * (leV Z)) v], fun v w => NatNew wd65.heap.size w (nv ((leV X) * (leV Z)) v) ((leV X) * (leV Z))) : Spec), (.inr (fun v => .slice (pOf v) 2 2, fun v w => RowIn w (pOf v) [(leV X) * (leV Y), (leV X) * (leV Z)]) : Spec), (.inr (fun v => .agg #[nv (((leV X) * (leV Y)) + ((leV X) * (leV Z))) v], fun v w => NatNew wd65.heap.size w (nv (((leV X) * (leV Y)) + ((leV X) * (leV Z))) v) (((leV X) * (leV Y)) + ((leV X) * (leV Z)))) : Spec), (.inr (fun _ => .int .i64 ((0 : Nat) : Int), fun v w => True) : Spec), .inl (.bool true), .inl (.bool true), .inl (.agg (#[nv (leV X) lv10] : Array Value)), .inl (.agg (#[nv (leV Y) lv19] : Array Value)), (.inr (fun v => .slice (pOf v) 2 2, fun v w => RowIn w (pOf v) [leV X, leV Y]) : Spec), (.inr (fun v => .agg #[nv ((leV X) * (leV Y)) v], fun v w => NatNew wd65.heap.size w (nv ((leV X) * (leV Y)) v) ((leV X) * (leV Y))) : Spec), .inl (.agg (#[nv (leV Z) lv29] : Array Value)), (.inr (fun v => .slice (pOf v) 2 2, fun v w => RowIn w (pOf v) [(leV X) * (leV Y), leV Z]) : Spec), (.inr (fun v => .agg #[nv (((leV X) * (leV Y)) * (leV Z)) v], fun v w => NatNew wd65.heap.size w (nv (((leV X) * (leV Y)) * (leV Z)) v) (((leV X) * (leV Y)) * (leV Z))) : Spec), .inl (.agg (#[nv (leV Y) lv19] : Array Value)), .inl (.agg (#[nv (leV Z) lv29] : Array Value)), .inl (.agg (#[nv (leV X) lv10] : Array Value)), (.inr (fun v => .slice (pOf v) 2 2, fun v w => RowIn w (pOf v) [leV Z, leV X]) : Spec), (.inr (fun v => .agg #[nv ((leV Z) * (leV X)) v], fun v w => NatNew wd65.heap.size w (nv ((leV Z) * (leV X)) v) ((leV Z) * (leV X))) : Spec), (.inr (fun v => .slice (pOf v) 2 2, fun v w => RowIn w (pOf v) [leV Y, (leV Z) * (leV X)]) : Spec), (.inr (fun v => .agg #[nv ((leV Y) * ((leV Z) * (leV X))) v], fun v w => NatNew wd65.heap.size w (nv ((leV Y) * ((leV Z) * (leV X))) v) ((leV Y) * ((leV Z) * (leV X)))) : Spec), (.inr (fun _ => .int .i64 ((0 : Nat) : Int), fun v w => True) : Spec), .inl (.bool true), .inl (.bool true), .inl (.bool true), .inl (.agg (#[nv (leV X) lv10] : Array Value)), .inl (.agg (#[nv (leV Y) lv19] : Array Value)), .inl (.agg (#[nv (leV Z) lv29] : Array Value)), (.inr (fun v => .slice (pOf v) 3 3, fun v w => RowIn w (pOf v) [leV X, leV Y, leV Z]) : Spec), (.inr (fun v => .agg #[nv ((leV X) + ((leV Y) + (leV Z))) v], fun v w => NatNew wd65.heap.size w (nv ((leV X) + ((leV Y) + (leV Z))) v) ((leV X) + ((leV Y) + (leV Z)))) : Spec), .inl (.agg (#[nv (leV Z) lv29] : Array Value)), .inl (.agg (#[nv (leV Y) lv19] : Array Value)), .inl (.agg (#[nv (leV X) lv10] : Array Value)), (.inr (fun v => .slice (pOf v) 2 2, fun v w => RowIn w (pOf v) [leV Y, leV X]) : Spec), (.inr (fun v => .agg #[nv ((leV Y) + (leV X)) v], fun v w => NatNew wd65.heap.size w (nv ((leV Y) + (leV X)) v) ((leV Y) + (leV X))) : Spec), (.inr (fun v => .slice (pOf v) 2 2, fun v w => RowIn w (pOf v) [leV Z, (leV Y) + (leV X)]) : Spec), (.inr (fun v => .agg #[nv ((leV Z) + ((leV Y) + (leV X))) v], fun v w => NatNew wd65.heap.size w (nv ((leV Z) + ((leV Y) + (leV X))) v) ((leV Z) + ((leV Y) + (leV X)))) : Spec), (.inr (fun _ => .int .i64 ((0 : Nat) : Int), fun v w => True) : Spec), .inl (.bool true), .inl (.bool true), .inl (.bool true), .inl (.bool true), .inl (.bool true), .inl (.bool true), .inl (.agg (#[nv (((leV X) + (leV Y)) - (leV Y)) lv46] : Array Value)), .inl (.agg (#[nv (leV X) lv10] : Array Value)), .inl (.int .i64 (cmpN (((leV X) + (leV Y)) - (leV Y)) (leV X) : Int)), .inl (.bool true), .inl (.bool true), .inl (.bool true), .inl (.bool (decide ((leV Y) ≤ (leV X)))), .inl (.agg (#[nv (leV X) lv10] : Array Value)), .inl (.agg (#[nv (leV Y) lv19] : Array Value)), .inl (.int .i64 (cmpN (leV X) (leV Y) : Int)), .inl (.bool (decide (leV Y ≤ leV X))), .inl (.bool true), .inl (.bool true), .inl (.bool true), .inl (.agg (#[nv (leV X) lv10] : Array Value)), .inl (.agg (#[nv (leV Y) lv19] : Array Value)), .inl (.int .i64 (cmpN (leV X) (leV Y) : Int)), .inl (.agg (#[nv (leV Y) lv19] : Array Value)), .inl (.agg (#[nv (leV X) lv10] : Array Value)), .inl (.int .i64 (cmpN (leV Y) (leV X) : Int)), .inl (.int .i64 (-(cmpN (leV Y) (leV X)) : Int)), .inl (.bool true), .inl (.bool true), .inl (.bool true), .inl (.bool true), .inl (.bool true), .inl (.bool true)] [some (b_ 4), some (b_ 3), some (b_ 2), some (o_), none, some (o_), none, some (b_ 4), some (b_ 3), some (o_), none, some (b_ 4), some (b_ 2), some (o_), none, some (o_), none, none, some (w_ 2), some (o_), some (b_ 4), some (b_ 3), some (o_), none, some (b_ 2), some (o_), none, some (b_ 3), some (b_ 2), some (b_ 4), some (o_), none, some (o_), none, none, some (w_ 2), some (o_), some (o_), some (b_ 4), some (b_ 3), some (b_ 2), some (o_), none, some (b_ 2), some (b_ 3), some (b_ 4), some (o_), none, some (o_), none, none, some (w_ 2), some (o_), some (o_), some (o_), some (o_), some (o_), some (b_ 1), some (b_ 4), some (u_ 1 (.int .i64 (cmpN (((leV X) + (leV Y)) - (leV Y)) (leV X) : Int))), some (u_ 4 (.bool true)), some (o_), some (o_), some (o_), some (b_ 4), some (b_ 3), some (u_ 1 (.int .i64 (cmpN (leV X) (leV Y) : Int))), some (u_ 4 (.bool (decide (leV Y ≤ leV X)))), some (f_ (.bool true)), some (o_), some (o_), some (b_ 4), some (b_ 3), some (u_ 1 (.int .i64 (cmpN (leV X) (leV Y) : Int))), some (b_ 3), some (b_ 4), some (u_ 1 (.int .i64 (cmpN (leV Y) (leV X) : Int))), some (f_ (.int .i64 (-(cmpN (leV Y) (leV X)) : Int))), some (u_ 4 (.bool true)), some (o_), some (o_), some (u_ 1 (.bool true)), some (o_), some (o_)] [6, 10, 9, 8, 7, 0, 1, 2] (fun lx wq => [(bx = bx ∧ (#[nv (leV X) lv10] : Array Value).size = 1 ∧ Value.agg (#[nv (leV X) lv10] : Array Value) = .agg (#[nv (leV X) lv10] : Array Value)), (by_ = by_ ∧ (#[nv (leV Y) lv19] : Array Value).size = 1 ∧ Value.agg (#[nv (leV Y) lv19] : Array Value) = .agg (#[nv (leV Y) lv19] : Array Value)), (bz = bz ∧ (#[nv (leV Z) lv29] : Array Value).size = 1 ∧ Value.agg (#[nv (leV Z) lv29] : Array Value) = .agg (#[nv (leV Z) lv29] : Array Value)), ((∀ w', Below wq.heap.size wq w' → w'.heap[wq.heap.size]? = some (.cells (#[nv (leV Y) lv19, nv (leV Z) lv29] : Array Value) 27) → ∃ y, Value.slice (some ⟨wq.heap.size, 0, none⟩) 2 2 = (fun v => .slice (pOf v) 2 2) y ∧ RowIn w' (pOf y) [leV Y, leV Z])), (RowIn wq (pOf (lx 3)) [leV Y, leV Z] → CallQ Tryd.prog 24 [.slice (pOf (lx 3)) 2 2] wq (.inr (fun v => .agg #[nv ((leV Y) + (leV Z)) v], fun v w => NatNew wd65.heap.size w (nv ((leV Y) + (leV Z)) v) ((leV Y) + (leV Z))) : Spec)), (NatNew wd65.heap.size wq (nv ((leV Y) + (leV Z)) (lx 4)) ((leV Y) + (leV Z)) → (∀ w', Below wq.heap.size wq w' → w'.heap[wq.heap.size]? = some (.cells (#[nv (leV X) lv10, nv ((leV Y) + (leV Z)) (lx 4)] : Array Value) 27) → ∃ y, Value.slice (some ⟨wq.heap.size, 0, none⟩) 2 2 = (fun v => .slice (pOf v) 2 2) y ∧ RowIn w' (pOf y) [leV X, (leV Y) + (leV Z)])), (RowIn wq (pOf (lx 5)) [leV X, (leV Y) + (leV Z)] → NatNew wd65.heap.size wq (nv ((leV Y) + (leV Z)) (lx 4)) ((leV Y) + (leV Z)) → CallQ Tryd.prog 25 [.slice (pOf (lx 5)) 2 2] wq (.inr (fun v => .agg #[nv ((leV X) * ((leV Y) + (leV Z))) v], fun v w => NatNew wd65.heap.size w (nv ((leV X) * ((leV Y) + (leV Z))) v) ((leV X) * ((leV Y) + (leV Z)))) : Spec)), (bx = bx ∧ (#[nv (leV X) lv10] : Array Value).size = 1 ∧ Value.agg (#[nv (leV X) lv10] : Array Value) = .agg (#[nv (leV X) lv10] : Array Value)), (by_ = by_ ∧ (#[nv (leV Y) lv19] : Array Value).size = 1 ∧ Value.agg (#[nv (leV Y) lv19] : Array Value) = .agg (#[nv (leV Y) lv19] : Array Value)), ((∀ w', Below wq.heap.size wq w' → w'.heap[wq.heap.size]? = some (.cells (#[nv (leV X) lv10, nv (leV Y) lv19] : Array Value) 27) → ∃ y, Value.slice (some ⟨wq.heap.size, 0, none⟩) 2 2 = (fun v => .slice (pOf v) 2 2) y ∧ RowIn w' (pOf y) [leV X, leV Y])), (RowIn wq (pOf (lx 9)) [leV X, leV Y] → NatNew wd65.heap.size wq (nv ((leV X) * ((leV Y) + (leV Z))) (lx 6)) ((leV X) * ((leV Y) + (leV Z))) → CallQ Tryd.prog 25 [.slice (pOf (lx 9)) 2 2] wq (.inr (fun v => .agg #[nv ((leV X) * (leV Y)) v], fun v w => NatNew wd65.heap.size w (nv ((leV X) * (leV Y)) v) ((leV X) * (leV Y))) : Spec)), (bx = bx ∧ (#[nv (leV X) lv10] : Array Value).size = 1 ∧ Value.agg (#[nv (leV X) lv10] : Array Value) = .agg (#[nv (leV X) lv10] : Array Value)), (bz = bz ∧ (#[nv (leV Z) lv29] : Array Value).size = 1 ∧ Value.agg (#[nv (leV Z) lv29] : Array Value) = .agg (#[nv (leV Z) lv29] : Array Value)), ((∀ w', Below wq.heap.size wq w' → w'.heap[wq.heap.size]? = some (.cells (#[nv (leV X) lv10, nv (leV Z) lv29] : Array Value) 27) → ∃ y, Value.slice (some ⟨wq.heap.size, 0, none⟩) 2 2 = (fun v => .slice (pOf v) 2 2) y ∧ RowIn w' (pOf y) [leV X, leV Z])), (RowIn wq (pOf (lx 13)) [leV X, leV Z] → NatNew wd65.heap.size wq (nv ((leV X) * (leV Y)) (lx 10)) ((leV X) * (leV Y)) → CallQ Tryd.prog 25 [.slice (pOf (lx 13)) 2 2] wq (.inr (fun v => .agg #[nv ((leV X) * (leV Z)) v], fun v w => NatNew wd65.heap.size w (nv ((leV X) * (leV Z)) v) ((leV X) * (leV Z))) : Spec)), (NatNew wd65.heap.size wq (nv ((leV X) * (leV Y)) (lx 10)) ((leV X) * (leV Y)) → NatNew wd65.heap.size wq (nv ((leV X) * (leV Z)) (lx 14)) ((leV X) * (leV Z)) → (∀ w', Below wq.heap.size wq w' → w'.heap[wq.heap.size]? = some (.cells (#[nv ((leV X) * (leV Y)) (lx 10), nv ((leV X) * (leV Z)) (lx 14)] : Array Value) 27) → ∃ y, Value.slice (some ⟨wq.heap.size, 0, none⟩) 2 2 = (fun v => .slice (pOf v) 2 2) y ∧ RowIn w' (pOf y) [(leV X) * (leV Y), (leV X) * (leV Z)])), (RowIn wq (pOf (lx 15)) [(leV X) * (leV Y), (leV X) * (leV Z)] → NatNew wd65.heap.size wq (nv ((leV X) * (leV Z)) (lx 14)) ((leV X) * (leV Z)) → CallQ Tryd.prog 24 [.slice (pOf (lx 15)) 2 2] wq (.inr (fun v => .agg #[nv (((leV X) * (leV Y)) + ((leV X) * (leV Z))) v], fun v w => NatNew wd65.heap.size w (nv (((leV X) * (leV Y)) + ((leV X) * (leV Z))) v) (((leV X) * (leV Y)) + ((leV X) * (leV Z)))) : Spec)), (NatNew wd65.heap.size wq (nv ((leV X) * ((leV Y) + (leV Z))) (lx 6)) ((leV X) * ((leV Y) + (leV Z))) → NatNew wd65.heap.size wq (nv (((leV X) * (leV Y)) + ((leV X) * (leV Z))) (lx 16)) (((leV X) * (leV Y)) + ((leV X) * (leV Z))) → NatNew wd65.heap.size wq (nv (((leV X) * (leV Y)) + ((leV X) * (leV Z))) (lx 16)) (((leV X) * (leV Y)) + ((leV X) * (leV Z))) → CallQ Tryd.prog 17 [.agg (#[nv ((leV X) * ((leV Y) + (leV Z))) (lx 6)] : Array Value), .agg (#[nv (((leV X) * (leV Y)) + ((leV X) * (leV Z))) (lx 16)] : Array Value)] wq (.inr (fun _ => .int .i64 ((0 : Nat) : Int), fun v w => True) : Spec)), (True → 0 = 0 ∧ Value.bool true = .bool true), (True → Value.bool true = .bool true), (bx = bx ∧ (#[nv (leV X) lv10] : Array Value).size = 1 ∧ Value.agg (#[nv (leV X) lv10] : Array Value) = .agg (#[nv (leV X) lv10] : Array Value)), (by_ = by_ ∧ (#[nv (leV Y) lv19] : Array Value).size = 1 ∧ Value.agg (#[nv (leV Y) lv19] : Array Value) = .agg (#[nv (leV Y) lv19] : Array Value)), ((∀ w', Below wq.heap.size wq w' → w'.heap[wq.heap.size]? = some (.cells (#[nv (leV X) lv10, nv (leV Y) lv19] : Array Value) 27) → ∃ y, Value.slice (some ⟨wq.heap.size, 0, none⟩) 2 2 = (fun v => .slice (pOf v) 2 2) y ∧ RowIn w' (pOf y) [leV X, leV Y])), (RowIn wq (pOf (lx 22)) [leV X, leV Y] → CallQ Tryd.prog 25 [.slice (pOf (lx 22)) 2 2] wq (.inr (fun v => .agg #[nv ((leV X) * (leV Y)) v], fun v w => NatNew wd65.heap.size w (nv ((leV X) * (leV Y)) v) ((leV X) * (leV Y))) : Spec)), (bz = bz ∧ (#[nv (leV Z) lv29] : Array Value).size = 1 ∧ Value.agg (#[nv (leV Z) lv29] : Array Value) = .agg (#[nv (leV Z) lv29] : Array Value)), (NatNew wd65.heap.size wq (nv ((leV X) * (leV Y)) (lx 23)) ((leV X) * (leV Y)) → (∀ w', Below wq.heap.size wq w' → w'.heap[wq.heap.size]? = some (.cells (#[nv ((leV X) * (leV Y)) (lx 23), nv (leV Z) lv29] : Array Value) 27) → ∃ y, Value.slice (some ⟨wq.heap.size, 0, none⟩) 2 2 = (fun v => .slice (pOf v) 2 2) y ∧ RowIn w' (pOf y) [(leV X) * (leV Y), leV Z])), (RowIn wq (pOf (lx 25)) [(leV X) * (leV Y), leV Z] → NatNew wd65.heap.size wq (nv ((leV X) * (leV Y)) (lx 23)) ((leV X) * (leV Y)) → CallQ Tryd.prog 25 [.slice (pOf (lx 25)) 2 2] wq (.inr (fun v => .agg #[nv (((leV X) * (leV Y)) * (leV Z)) v], fun v w => NatNew wd65.heap.size w (nv (((leV X) * (leV Y)) * (leV Z)) v) (((leV X) * (leV Y)) * (leV Z))) : Spec)), (by_ = by_ ∧ (#[nv (leV Y) lv19] : Array Value).size = 1 ∧ Value.agg (#[nv (leV Y) lv19] : Array Value) = .agg (#[nv (leV Y) lv19] : Array Value)), (bz = bz ∧ (#[nv (leV Z) lv29] : Array Value).size = 1 ∧ Value.agg (#[nv (leV Z) lv29] : Array Value) = .agg (#[nv (leV Z) lv29] : Array Value)), (bx = bx ∧ (#[nv (leV X) lv10] : Array Value).size = 1 ∧ Value.agg (#[nv (leV X) lv10] : Array Value) = .agg (#[nv (leV X) lv10] : Array Value)), ((∀ w', Below wq.heap.size wq w' → w'.heap[wq.heap.size]? = some (.cells (#[nv (leV Z) lv29, nv (leV X) lv10] : Array Value) 27) → ∃ y, Value.slice (some ⟨wq.heap.size, 0, none⟩) 2 2 = (fun v => .slice (pOf v) 2 2) y ∧ RowIn w' (pOf y) [leV Z, leV X])), (RowIn wq (pOf (lx 30)) [leV Z, leV X] → NatNew wd65.heap.size wq (nv (((leV X) * (leV Y)) * (leV Z)) (lx 26)) (((leV X) * (leV Y)) * (leV Z)) → CallQ Tryd.prog 25 [.slice (pOf (lx 30)) 2 2] wq (.inr (fun v => .agg #[nv ((leV Z) * (leV X)) v], fun v w => NatNew wd65.heap.size w (nv ((leV Z) * (leV X)) v) ((leV Z) * (leV X))) : Spec)), (NatNew wd65.heap.size wq (nv ((leV Z) * (leV X)) (lx 31)) ((leV Z) * (leV X)) → (∀ w', Below wq.heap.size wq w' → w'.heap[wq.heap.size]? = some (.cells (#[nv (leV Y) lv19, nv ((leV Z) * (leV X)) (lx 31)] : Array Value) 27) → ∃ y, Value.slice (some ⟨wq.heap.size, 0, none⟩) 2 2 = (fun v => .slice (pOf v) 2 2) y ∧ RowIn w' (pOf y) [leV Y, (leV Z) * (leV X)])), (RowIn wq (pOf (lx 32)) [leV Y, (leV Z) * (leV X)] → NatNew wd65.heap.size wq (nv ((leV Z) * (leV X)) (lx 31)) ((leV Z) * (leV X)) → CallQ Tryd.prog 25 [.slice (pOf (lx 32)) 2 2] wq (.inr (fun v => .agg #[nv ((leV Y) * ((leV Z) * (leV X))) v], fun v w => NatNew wd65.heap.size w (nv ((leV Y) * ((leV Z) * (leV X))) v) ((leV Y) * ((leV Z) * (leV X)))) : Spec)), (NatNew wd65.heap.size wq (nv (((leV X) * (leV Y)) * (leV Z)) (lx 26)) (((leV X) * (leV Y)) * (leV Z)) → NatNew wd65.heap.size wq (nv ((leV Y) * ((leV Z) * (leV X))) (lx 33)) ((leV Y) * ((leV Z) * (leV X))) → NatNew wd65.heap.size wq (nv ((leV Y) * ((leV Z) * (leV X))) (lx 33)) ((leV Y) * ((leV Z) * (leV X))) → CallQ Tryd.prog 17 [.agg (#[nv (((leV X) * (leV Y)) * (leV Z)) (lx 26)] : Array Value), .agg (#[nv ((leV Y) * ((leV Z) * (leV X))) (lx 33)] : Array Value)] wq (.inr (fun _ => .int .i64 ((0 : Nat) : Int), fun v w => True) : Spec)), (True → 0 = 0 ∧ Value.bool true = .bool true), (Value.bool true = .bool true), (True → Value.bool true = .bool true), (bx = bx ∧ (#[nv (leV X) lv10] : Array Value).size = 1 ∧ Value.agg (#[nv (leV X) lv10] : Array Value) = .agg (#[nv (leV X) lv10] : Array Value)), (by_ = by_ ∧ (#[nv (leV Y) lv19] : Array Value).size = 1 ∧ Value.agg (#[nv (leV Y) lv19] : Array Value) = .agg (#[nv (leV Y) lv19] : Array Value)), (bz = bz ∧ (#[nv (leV Z) lv29] : Array Value).size = 1 ∧ Value.agg (#[nv (leV Z) lv29] : Array Value) = .agg (#[nv (leV Z) lv29] : Array Value)), ((∀ w', Below wq.heap.size wq w' → w'.heap[wq.heap.size]? = some (.cells (#[nv (leV X) lv10, nv (leV Y) lv19, nv (leV Z) lv29] : Array Value) 27) → ∃ y, Value.slice (some ⟨wq.heap.size, 0, none⟩) 3 3 = (fun v => .slice (pOf v) 3 3) y ∧ RowIn w' (pOf y) [leV X, leV Y, leV Z])), (RowIn wq (pOf (lx 41)) [leV X, leV Y, leV Z] → CallQ Tryd.prog 24 [.slice (pOf (lx 41)) 3 3] wq (.inr (fun v => .agg #[nv ((leV X) + ((leV Y) + (leV Z))) v], fun v w => NatNew wd65.heap.size w (nv ((leV X) + ((leV Y) + (leV Z))) v) ((leV X) + ((leV Y) + (leV Z)))) : Spec)), (bz = bz ∧ (#[nv (leV Z) lv29] : Array Value).size = 1 ∧ Value.agg (#[nv (leV Z) lv29] : Array Value) = .agg (#[nv (leV Z) lv29] : Array Value)), (by_ = by_ ∧ (#[nv (leV Y) lv19] : Array Value).size = 1 ∧ Value.agg (#[nv (leV Y) lv19] : Array Value) = .agg (#[nv (leV Y) lv19] : Array Value)), (bx = bx ∧ (#[nv (leV X) lv10] : Array Value).size = 1 ∧ Value.agg (#[nv (leV X) lv10] : Array Value) = .agg (#[nv (leV X) lv10] : Array Value)), ((∀ w', Below wq.heap.size wq w' → w'.heap[wq.heap.size]? = some (.cells (#[nv (leV Y) lv19, nv (leV X) lv10] : Array Value) 27) → ∃ y, Value.slice (some ⟨wq.heap.size, 0, none⟩) 2 2 = (fun v => .slice (pOf v) 2 2) y ∧ RowIn w' (pOf y) [leV Y, leV X])), (RowIn wq (pOf (lx 46)) [leV Y, leV X] → NatNew wd65.heap.size wq (nv ((leV X) + ((leV Y) + (leV Z))) (lx 42)) ((leV X) + ((leV Y) + (leV Z))) → CallQ Tryd.prog 24 [.slice (pOf (lx 46)) 2 2] wq (.inr (fun v => .agg #[nv ((leV Y) + (leV X)) v], fun v w => NatNew wd65.heap.size w (nv ((leV Y) + (leV X)) v) ((leV Y) + (leV X))) : Spec)), (NatNew wd65.heap.size wq (nv ((leV Y) + (leV X)) (lx 47)) ((leV Y) + (leV X)) → (∀ w', Below wq.heap.size wq w' → w'.heap[wq.heap.size]? = some (.cells (#[nv (leV Z) lv29, nv ((leV Y) + (leV X)) (lx 47)] : Array Value) 27) → ∃ y, Value.slice (some ⟨wq.heap.size, 0, none⟩) 2 2 = (fun v => .slice (pOf v) 2 2) y ∧ RowIn w' (pOf y) [leV Z, (leV Y) + (leV X)])), (RowIn wq (pOf (lx 48)) [leV Z, (leV Y) + (leV X)] → NatNew wd65.heap.size wq (nv ((leV Y) + (leV X)) (lx 47)) ((leV Y) + (leV X)) → CallQ Tryd.prog 24 [.slice (pOf (lx 48)) 2 2] wq (.inr (fun v => .agg #[nv ((leV Z) + ((leV Y) + (leV X))) v], fun v w => NatNew wd65.heap.size w (nv ((leV Z) + ((leV Y) + (leV X))) v) ((leV Z) + ((leV Y) + (leV X)))) : Spec)), (NatNew wd65.heap.size wq (nv ((leV X) + ((leV Y) + (leV Z))) (lx 42)) ((leV X) + ((leV Y) + (leV Z))) → NatNew wd65.heap.size wq (nv ((leV Z) + ((leV Y) + (leV X))) (lx 49)) ((leV Z) + ((leV Y) + (leV X))) → NatNew wd65.heap.size wq (nv ((leV Z) + ((leV Y) + (leV X))) (lx 49)) ((leV Z) + ((leV Y) + (leV X))) → CallQ Tryd.prog 17 [.agg (#[nv ((leV X) + ((leV Y) + (leV Z))) (lx 42)] : Array Value), .agg (#[nv ((leV Z) + ((leV Y) + (leV X))) (lx 49)] : Array Value)] wq (.inr (fun _ => .int .i64 ((0 : Nat) : Int), fun v w => True) : Spec)), (True → 0 = 0 ∧ Value.bool true = .bool true), (Value.bool true = .bool true), (True → Value.bool true = .bool true), (Value.bool true = .bool true), (Value.bool true = .bool true), (Value.bool true = .bool true), (gd = gd ∧ (#[nv (((leV X) + (leV Y)) - (leV Y)) lv46] : Array Value).size = 1 ∧ Value.agg (#[nv (((leV X) + (leV Y)) - (leV Y)) lv46] : Array Value) = .agg (#[nv (((leV X) + (leV Y)) - (leV Y)) lv46] : Array Value)), (bx = bx ∧ (#[nv (leV X) lv10] : Array Value).size = 1 ∧ Value.agg (#[nv (leV X) lv10] : Array Value) = .agg (#[nv (leV X) lv10] : Array Value)), (CallP Tryd.prog 17 [.agg (#[nv (((leV X) + (leV Y)) - (leV Y)) lv46] : Array Value), .agg (#[nv (leV X) lv10] : Array Value)] ((be, .cells (#[nv ((leV X) - (leV Y)) lv56] : Array Value) 27) :: (gd, .cells (#[nv (((leV X) + (leV Y)) - (leV Y)) lv46] : Array Value) 27) :: (bz, .cells (#[nv (leV Z) lv29] : Array Value) 27) :: (by_, .cells (#[nv (leV Y) lv19] : Array Value) 27) :: (bx, .cells (#[nv (leV X) lv10] : Array Value) 27) :: O59) (.int .i64 (cmpN (((leV X) + (leV Y)) - (leV Y)) (leV X) : Int)) ∧ Value.int .i64 (cmpN (((leV X) + (leV Y)) - (leV Y)) (leV X) : Int) = .int .i64 (cmpN (((leV X) + (leV Y)) - (leV Y)) (leV X) : Int)), (Value.bool (decide ((cmpN (((leV X) + (leV Y)) - (leV Y)) (leV X)) = ((0 : Nat) : Int))) = .bool true ∧ Value.bool true = .bool true), (Value.bool true = .bool true), (Value.bool true = .bool true), (Value.bool (decide ((leV Y) ≤ (leV X))) = .bool (decide ((leV Y) ≤ (leV X)))), (bx = bx ∧ (#[nv (leV X) lv10] : Array Value).size = 1 ∧ Value.agg (#[nv (leV X) lv10] : Array Value) = .agg (#[nv (leV X) lv10] : Array Value)), (by_ = by_ ∧ (#[nv (leV Y) lv19] : Array Value).size = 1 ∧ Value.agg (#[nv (leV Y) lv19] : Array Value) = .agg (#[nv (leV Y) lv19] : Array Value)), (CallP Tryd.prog 17 [.agg (#[nv (leV X) lv10] : Array Value), .agg (#[nv (leV Y) lv19] : Array Value)] ((be, .cells (#[nv ((leV X) - (leV Y)) lv56] : Array Value) 27) :: (gd, .cells (#[nv (((leV X) + (leV Y)) - (leV Y)) lv46] : Array Value) 27) :: (bz, .cells (#[nv (leV Z) lv29] : Array Value) 27) :: (by_, .cells (#[nv (leV Y) lv19] : Array Value) 27) :: (bx, .cells (#[nv (leV X) lv10] : Array Value) 27) :: O59) (.int .i64 (cmpN (leV X) (leV Y) : Int)) ∧ Value.int .i64 (cmpN (leV X) (leV Y) : Int) = .int .i64 (cmpN (leV X) (leV Y) : Int)), (Value.bool (decide ((cmpN (leV X) (leV Y)) ≥ ((0 : Nat) : Int))) = .bool (decide (leV Y ≤ leV X)) ∧ Value.bool (decide (leV Y ≤ leV X)) = .bool (decide (leV Y ≤ leV X))), (RunV Tryd.prog [(112, .bool (decide ((leV Y) ≤ (leV X)))), (116, .bool (decide (leV Y ≤ leV X))), (111, .bool true), (13, .bool (decide ((leV Y) ≤ (leV X)))), (11, .bool true), (10, .pointer (some ⟨gd, 0, none⟩)), (9, .pointer (some ⟨bz, 0, none⟩)), (8, .pointer (some ⟨by_, 0, none⟩)), (7, .pointer (some ⟨bx, 0, none⟩)), (0, .string (bs X)), (1, .string (bs Y)), (2, .string (bs Z))] ((be, .cells (#[nv ((leV X) - (leV Y)) lv56] : Array Value) 27) :: (gd, .cells (#[nv (((leV X) + (leV Y)) - (leV Y)) lv46] : Array Value) 27) :: (bz, .cells (#[nv (leV Z) lv29] : Array Value) 27) :: (by_, .cells (#[nv (leV Y) lv19] : Array Value) 27) :: (bx, .cells (#[nv (leV X) lv10] : Array Value) 27) :: O59) (opAt Tryd.f6 6 68) (.bool true) ∧ Value.bool true = .bool true), (Value.bool true = .bool true), (Value.bool true = .bool true), (bx = bx ∧ (#[nv (leV X) lv10] : Array Value).size = 1 ∧ Value.agg (#[nv (leV X) lv10] : Array Value) = .agg (#[nv (leV X) lv10] : Array Value)), (by_ = by_ ∧ (#[nv (leV Y) lv19] : Array Value).size = 1 ∧ Value.agg (#[nv (leV Y) lv19] : Array Value) = .agg (#[nv (leV Y) lv19] : Array Value)), (CallP Tryd.prog 17 [.agg (#[nv (leV X) lv10] : Array Value), .agg (#[nv (leV Y) lv19] : Array Value)] ((be, .cells (#[nv ((leV X) - (leV Y)) lv56] : Array Value) 27) :: (gd, .cells (#[nv (((leV X) + (leV Y)) - (leV Y)) lv46] : Array Value) 27) :: (bz, .cells (#[nv (leV Z) lv29] : Array Value) 27) :: (by_, .cells (#[nv (leV Y) lv19] : Array Value) 27) :: (bx, .cells (#[nv (leV X) lv10] : Array Value) 27) :: O59) (.int .i64 (cmpN (leV X) (leV Y) : Int)) ∧ Value.int .i64 (cmpN (leV X) (leV Y) : Int) = .int .i64 (cmpN (leV X) (leV Y) : Int)), (by_ = by_ ∧ (#[nv (leV Y) lv19] : Array Value).size = 1 ∧ Value.agg (#[nv (leV Y) lv19] : Array Value) = .agg (#[nv (leV Y) lv19] : Array Value)), (bx = bx ∧ (#[nv (leV X) lv10] : Array Value).size = 1 ∧ Value.agg (#[nv (leV X) lv10] : Array Value) = .agg (#[nv (leV X) lv10] : Array Value)), (CallP Tryd.prog 17 [.agg (#[nv (leV Y) lv19] : Array Value), .agg (#[nv (leV X) lv10] : Array Value)] ((be, .cells (#[nv ((leV X) - (leV Y)) lv56] : Array Value) 27) :: (gd, .cells (#[nv (((leV X) + (leV Y)) - (leV Y)) lv46] : Array Value) 27) :: (bz, .cells (#[nv (leV Z) lv29] : Array Value) 27) :: (by_, .cells (#[nv (leV Y) lv19] : Array Value) 27) :: (bx, .cells (#[nv (leV X) lv10] : Array Value) 27) :: O59) (.int .i64 (cmpN (leV Y) (leV X) : Int)) ∧ Value.int .i64 (cmpN (leV Y) (leV X) : Int) = .int .i64 (cmpN (leV Y) (leV X) : Int)), (RunV Tryd.prog [(125, .int .i64 (cmpN (leV Y) (leV X) : Int)), (119, .bool true), (13, .bool (decide ((leV Y) ≤ (leV X)))), (11, .bool true), (10, .pointer (some ⟨gd, 0, none⟩)), (9, .pointer (some ⟨bz, 0, none⟩)), (8, .pointer (some ⟨by_, 0, none⟩)), (7, .pointer (some ⟨bx, 0, none⟩)), (0, .string (bs X)), (1, .string (bs Y)), (2, .string (bs Z))] ((be, .cells (#[nv ((leV X) - (leV Y)) lv56] : Array Value) 27) :: (gd, .cells (#[nv (((leV X) + (leV Y)) - (leV Y)) lv46] : Array Value) 27) :: (bz, .cells (#[nv (leV Z) lv29] : Array Value) 27) :: (by_, .cells (#[nv (leV Y) lv19] : Array Value) 27) :: (bx, .cells (#[nv (leV X) lv10] : Array Value) 27) :: O59) (opAt Tryd.f6 6 77) (.int .i64 (-(cmpN (leV Y) (leV X)) : Int)) ∧ Value.int .i64 (-(cmpN (leV Y) (leV X)) : Int) = .int .i64 (-(cmpN (leV Y) (leV X)) : Int)), (Value.bool (decide ((cmpN (leV X) (leV Y)) = (-(cmpN (leV Y) (leV X))))) = .bool true ∧ Value.bool true = .bool true), (Value.bool true = .bool true), (Value.bool true = .bool true), (CallP Tryd.prog 8 [] ((be, .cells (#[nv ((leV X) - (leV Y)) lv56] : Array Value) 27) :: (gd, .cells (#[nv (((leV X) + (leV Y)) - (leV Y)) lv46] : Array Value) 27) :: (bz, .cells (#[nv (leV Z) lv29] : Array Value) 27) :: (by_, .cells (#[nv (leV Y) lv19] : Array Value) 27) :: (bx, .cells (#[nv (leV X) lv10] : Array Value) 27) :: O59) (.bool true) ∧ Value.bool true = .bool true), (Value.bool true = .bool true), (RowIn wq (pOf (lx 3)) [leV Y, leV Z] → NatNew wd65.heap.size wq (nv ((leV Y) + (leV Z)) (lx 4)) ((leV Y) + (leV Z)) → RowIn wq (pOf (lx 5)) [leV X, (leV Y) + (leV Z)] → NatNew wd65.heap.size wq (nv ((leV X) * ((leV Y) + (leV Z))) (lx 6)) ((leV X) * ((leV Y) + (leV Z))) → RowIn wq (pOf (lx 9)) [leV X, leV Y] → NatNew wd65.heap.size wq (nv ((leV X) * (leV Y)) (lx 10)) ((leV X) * (leV Y)) → RowIn wq (pOf (lx 13)) [leV X, leV Z] → NatNew wd65.heap.size wq (nv ((leV X) * (leV Z)) (lx 14)) ((leV X) * (leV Z)) → RowIn wq (pOf (lx 15)) [(leV X) * (leV Y), (leV X) * (leV Z)] → NatNew wd65.heap.size wq (nv (((leV X) * (leV Y)) + ((leV X) * (leV Z))) (lx 16)) (((leV X) * (leV Y)) + ((leV X) * (leV Z))) → True → RowIn wq (pOf (lx 22)) [leV X, leV Y] → NatNew wd65.heap.size wq (nv ((leV X) * (leV Y)) (lx 23)) ((leV X) * (leV Y)) → RowIn wq (pOf (lx 25)) [(leV X) * (leV Y), leV Z] → NatNew wd65.heap.size wq (nv (((leV X) * (leV Y)) * (leV Z)) (lx 26)) (((leV X) * (leV Y)) * (leV Z)) → RowIn wq (pOf (lx 30)) [leV Z, leV X] → NatNew wd65.heap.size wq (nv ((leV Z) * (leV X)) (lx 31)) ((leV Z) * (leV X)) → RowIn wq (pOf (lx 32)) [leV Y, (leV Z) * (leV X)] → NatNew wd65.heap.size wq (nv ((leV Y) * ((leV Z) * (leV X))) (lx 33)) ((leV Y) * ((leV Z) * (leV X))) → True → RowIn wq (pOf (lx 41)) [leV X, leV Y, leV Z] → NatNew wd65.heap.size wq (nv ((leV X) + ((leV Y) + (leV Z))) (lx 42)) ((leV X) + ((leV Y) + (leV Z))) → RowIn wq (pOf (lx 46)) [leV Y, leV X] → NatNew wd65.heap.size wq (nv ((leV Y) + (leV X)) (lx 47)) ((leV Y) + (leV X)) → RowIn wq (pOf (lx 48)) [leV Z, (leV Y) + (leV X)] → NatNew wd65.heap.size wq (nv ((leV Z) + ((leV Y) + (leV X))) (lx 49)) ((leV Z) + ((leV Y) + (leV X))) → True → Value.bool true = .bool true)]) (fun lx => [(6, .bool true), (10, .pointer (some ⟨gd, 0, none⟩)), (9, .pointer (some ⟨bz, 0, none⟩)), (8, .pointer (some ⟨by_, 0, none⟩)), (7, .pointer (some ⟨bx, 0, none⟩)), (0, .string (bs X)), (1, .string (bs Y)), (2, .string (bs Z))]) (by kernel_rfl) (by kernel_rfl) (by kernel_rfl) ⟨(row_st [leV Y, leV Z]), (fun v w w1 => natNew_st _ _ (nv _ v) w w1), (row_st [leV X, (leV Y) + (leV Z)]), (fun v w w1 => natNew_st _ _ (nv _ v) w w1), (row_st [leV X, leV Y]), (fun v w w1 => natNew_st _ _ (nv _ v) w w1), (row_st [leV X, leV Z]), (fun v w w1 => natNew_st _ _ (nv _ v) w w1), (row_st [(leV X) * (leV Y), (leV X) * (leV Z)]), (fun v w w1 => natNew_st _ _ (nv _ v) w w1), (fun _ _ _ _ _ => trivial), (row_st [leV X, leV Y]), (fun v w w1 => natNew_st _ _ (nv _ v) w w1), (row_st [(leV X) * (leV Y), leV Z]), (fun v w w1 => natNew_st _ _ (nv _ v) w w1), (row_st [leV Z, leV X]), (fun v w w1 => natNew_st _ _ (nv _ v) w w1), (row_st [leV Y, (leV Z) * (leV X)]), (fun v w w1 => natNew_st _ _ (nv _ v) w w1), (fun _ _ _ _ _ => trivial), (row_st [leV X, leV Y, leV Z]), (fun v w w1 => natNew_st _ _ (nv _ v) w w1), (row_st [leV Y, leV X]), (fun v w w1 => natNew_st _ _ (nv _ v) w w1), (row_st [leV Z, (leV Y) + (leV X)]), (fun v w w1 => natNew_st _ _ (nv _ v) w w1), (fun _ _ _ _ _ => trivial), trivial⟩ (fun _ _ => by kernel_rfl) (fun _ => by kernel_rfl) (fun lx wq hB9 hH9 => ⟨(⟨rfl, rfl, rfl⟩), (⟨rfl, rfl, rfl⟩), (⟨rfl, rfl, rfl⟩), (fun w' hb hh => ⟨.slice (some ⟨wq.heap.size, 0, none⟩) 2 2, rfl, _, nats2 hh (((hN61.get 3 rfl).at (Has.tl (Has.tl (Has.tl (Has.tl (Has.tl hH9)))))).keep hb) (((hN61.get 2 rfl).at (Has.tl (Has.tl (Has.tl (Has.tl (Has.tl hH9)))))).keep hb)⟩), (fun h3_0 => ⟨en_nadd, (nadd2r (leV Y) (leV Z) (le_b (add_b (of60 bY) (of60 bZ)) (by decide)) wq h3_0).mono fun _ _ ⟨v, h1, h2, h3⟩ => ⟨v, h1, h2, h3.mono hB9.size⟩⟩), (fun h4_0 => fun w' hb hh => ⟨.slice (some ⟨wq.heap.size, 0, none⟩) 2 2, rfl, _, nats2 hh (((hN61.get 4 rfl).at (Has.tl (Has.tl (Has.tl (Has.tl (Has.tl hH9)))))).keep hb) (h4_0.1.keep hb)⟩), (fun h5_0 h4_1 => ⟨en_nmul, (nmul2r (leV X) ((leV Y) + (leV Z)) (le_b (of60 bX) (by decide)) (le_b (add_b (of60 bY) (of60 bZ)) (by decide)) wq h5_0).mono fun _ _ ⟨v, h1, h2, h3⟩ => ⟨v, h1, h2, h3.mono hB9.size⟩⟩), (⟨rfl, rfl, rfl⟩), (⟨rfl, rfl, rfl⟩), (fun w' hb hh => ⟨.slice (some ⟨wq.heap.size, 0, none⟩) 2 2, rfl, _, nats2 hh (((hN61.get 4 rfl).at (Has.tl (Has.tl (Has.tl (Has.tl (Has.tl hH9)))))).keep hb) (((hN61.get 3 rfl).at (Has.tl (Has.tl (Has.tl (Has.tl (Has.tl hH9)))))).keep hb)⟩), (fun h9_0 h6_1 => ⟨en_nmul, (nmul2r (leV X) (leV Y) (le_b (of60 bX) (by decide)) (le_b (of60 bY) (by decide)) wq h9_0).mono fun _ _ ⟨v, h1, h2, h3⟩ => ⟨v, h1, h2, h3.mono hB9.size⟩⟩), (⟨rfl, rfl, rfl⟩), (⟨rfl, rfl, rfl⟩), (fun w' hb hh => ⟨.slice (some ⟨wq.heap.size, 0, none⟩) 2 2, rfl, _, nats2 hh (((hN61.get 4 rfl).at (Has.tl (Has.tl (Has.tl (Has.tl (Has.tl hH9)))))).keep hb) (((hN61.get 2 rfl).at (Has.tl (Has.tl (Has.tl (Has.tl (Has.tl hH9)))))).keep hb)⟩), (fun h13_0 h10_1 => ⟨en_nmul, (nmul2r (leV X) (leV Z) (le_b (of60 bX) (by decide)) (le_b (of60 bZ) (by decide)) wq h13_0).mono fun _ _ ⟨v, h1, h2, h3⟩ => ⟨v, h1, h2, h3.mono hB9.size⟩⟩), (fun h10_0 h14_1 => fun w' hb hh => ⟨.slice (some ⟨wq.heap.size, 0, none⟩) 2 2, rfl, _, nats2 hh (h10_0.1.keep hb) (h14_1.1.keep hb)⟩), (fun h15_0 h14_1 => ⟨en_nadd, (nadd2r ((leV X) * (leV Y)) ((leV X) * (leV Z)) (le_b (add_b (mul_b (of60 bX) (of60 bY)) (mul_b (of60 bX) (of60 bZ))) (by decide)) wq h15_0).mono fun _ _ ⟨v, h1, h2, h3⟩ => ⟨v, h1, h2, h3.mono hB9.size⟩⟩), (fun h6_0 h16_1 h16_2 => ⟨en_ncmp, (ncmp_any ((leV X) * ((leV Y) + (leV Z))) (lx 6) (qok (le_b (mul_b (of60 bX) (add_b (of60 bY) (of60 bZ))) (by decide))) (((leV X) * (leV Y)) + ((leV X) * (leV Z))) (lx 16) wq h6_0.1 h16_2.1).mono fun _ _ ⟨h1, h2⟩ => ⟨undef, h1.trans (by rw [← cmp0 (Nat.mul_add ..)]; rfl), h2, trivial⟩⟩), (fun h17_0 => ⟨(by decide), rfl⟩), (fun h17_0 => rfl), (⟨rfl, rfl, rfl⟩), (⟨rfl, rfl, rfl⟩), (fun w' hb hh => ⟨.slice (some ⟨wq.heap.size, 0, none⟩) 2 2, rfl, _, nats2 hh (((hN61.get 4 rfl).at (Has.tl (Has.tl (Has.tl (Has.tl (Has.tl hH9)))))).keep hb) (((hN61.get 3 rfl).at (Has.tl (Has.tl (Has.tl (Has.tl (Has.tl hH9)))))).keep hb)⟩), (fun h22_0 => ⟨en_nmul, (nmul2r (leV X) (leV Y) (le_b (of60 bX) (by decide)) (le_b (of60 bY) (by decide)) wq h22_0).mono fun _ _ ⟨v, h1, h2, h3⟩ => ⟨v, h1, h2, h3.mono hB9.size⟩⟩), (⟨rfl, rfl, rfl⟩), (fun h23_0 => fun w' hb hh => ⟨.slice (some ⟨wq.heap.size, 0, none⟩) 2 2, rfl, _, nats2 hh (h23_0.1.keep hb) (((hN61.get 2 rfl).at (Has.tl (Has.tl (Has.tl (Has.tl (Has.tl hH9)))))).keep hb)⟩), (fun h25_0 h23_1 => ⟨en_nmul, (nmul2r ((leV X) * (leV Y)) (leV Z) (le_b (mul_b (of60 bX) (of60 bY)) (by decide)) (le_b (of60 bZ) (by decide)) wq h25_0).mono fun _ _ ⟨v, h1, h2, h3⟩ => ⟨v, h1, h2, h3.mono hB9.size⟩⟩), (⟨rfl, rfl, rfl⟩), (⟨rfl, rfl, rfl⟩), (⟨rfl, rfl, rfl⟩), (fun w' hb hh => ⟨.slice (some ⟨wq.heap.size, 0, none⟩) 2 2, rfl, _, nats2 hh (((hN61.get 2 rfl).at (Has.tl (Has.tl (Has.tl (Has.tl (Has.tl hH9)))))).keep hb) (((hN61.get 4 rfl).at (Has.tl (Has.tl (Has.tl (Has.tl (Has.tl hH9)))))).keep hb)⟩), (fun h30_0 h26_1 => ⟨en_nmul, (nmul2r (leV Z) (leV X) (le_b (of60 bZ) (by decide)) (le_b (of60 bX) (by decide)) wq h30_0).mono fun _ _ ⟨v, h1, h2, h3⟩ => ⟨v, h1, h2, h3.mono hB9.size⟩⟩), (fun h31_0 => fun w' hb hh => ⟨.slice (some ⟨wq.heap.size, 0, none⟩) 2 2, rfl, _, nats2 hh (((hN61.get 3 rfl).at (Has.tl (Has.tl (Has.tl (Has.tl (Has.tl hH9)))))).keep hb) (h31_0.1.keep hb)⟩), (fun h32_0 h31_1 => ⟨en_nmul, (nmul2r (leV Y) ((leV Z) * (leV X)) (le_b (of60 bY) (by decide)) (le_b (mul_b (of60 bZ) (of60 bX)) (by decide)) wq h32_0).mono fun _ _ ⟨v, h1, h2, h3⟩ => ⟨v, h1, h2, h3.mono hB9.size⟩⟩), (fun h26_0 h33_1 h33_2 => ⟨en_ncmp, (ncmp_any (((leV X) * (leV Y)) * (leV Z)) (lx 26) (qok (le_b (mul_b (mul_b (of60 bX) (of60 bY)) (of60 bZ)) (by decide))) ((leV Y) * ((leV Z) * (leV X))) (lx 33) wq h26_0.1 h33_2.1).mono fun _ _ ⟨h1, h2⟩ => ⟨undef, h1.trans (by rw [← cmp0 (by rw [Nat.mul_assoc, Nat.mul_comm, Nat.mul_assoc])]; rfl), h2, trivial⟩⟩), (fun h34_0 => ⟨(by decide), rfl⟩), (rfl), (fun h34_0 => rfl), (⟨rfl, rfl, rfl⟩), (⟨rfl, rfl, rfl⟩), (⟨rfl, rfl, rfl⟩), (fun w' hb hh => ⟨.slice (some ⟨wq.heap.size, 0, none⟩) 3 3, rfl, _, nats3 hh (((hN61.get 4 rfl).at (Has.tl (Has.tl (Has.tl (Has.tl (Has.tl hH9)))))).keep hb) (((hN61.get 3 rfl).at (Has.tl (Has.tl (Has.tl (Has.tl (Has.tl hH9)))))).keep hb) (((hN61.get 2 rfl).at (Has.tl (Has.tl (Has.tl (Has.tl (Has.tl hH9)))))).keep hb)⟩), (fun h41_0 => ⟨en_nadd, (nadd3r (leV X) (leV Y) (leV Z) (le_b (add_b (of60 bX) (add_b (of60 bY) (of60 bZ))) (by decide)) wq h41_0).mono fun _ _ ⟨v, h1, h2, h3⟩ => ⟨v, h1, h2, h3.mono hB9.size⟩⟩), (⟨rfl, rfl, rfl⟩), (⟨rfl, rfl, rfl⟩), (⟨rfl, rfl, rfl⟩), (fun w' hb hh => ⟨.slice (some ⟨wq.heap.size, 0, none⟩) 2 2, rfl, _, nats2 hh (((hN61.get 3 rfl).at (Has.tl (Has.tl (Has.tl (Has.tl (Has.tl hH9)))))).keep hb) (((hN61.get 4 rfl).at (Has.tl (Has.tl (Has.tl (Has.tl (Has.tl hH9)))))).keep hb)⟩), (fun h46_0 h42_1 => ⟨en_nadd, (nadd2r (leV Y) (leV X) (le_b (add_b (of60 bY) (of60 bX)) (by decide)) wq h46_0).mono fun _ _ ⟨v, h1, h2, h3⟩ => ⟨v, h1, h2, h3.mono hB9.size⟩⟩), (fun h47_0 => fun w' hb hh => ⟨.slice (some ⟨wq.heap.size, 0, none⟩) 2 2, rfl, _, nats2 hh (((hN61.get 2 rfl).at (Has.tl (Has.tl (Has.tl (Has.tl (Has.tl hH9)))))).keep hb) (h47_0.1.keep hb)⟩), (fun h48_0 h47_1 => ⟨en_nadd, (nadd2r (leV Z) ((leV Y) + (leV X)) (le_b (add_b (of60 bZ) (add_b (of60 bY) (of60 bX))) (by decide)) wq h48_0).mono fun _ _ ⟨v, h1, h2, h3⟩ => ⟨v, h1, h2, h3.mono hB9.size⟩⟩), (fun h42_0 h49_1 h49_2 => ⟨en_ncmp, (ncmp_any ((leV X) + ((leV Y) + (leV Z))) (lx 42) (qok (le_b (add_b (of60 bX) (add_b (of60 bY) (of60 bZ))) (by decide))) ((leV Z) + ((leV Y) + (leV X))) (lx 49) wq h42_0.1 h49_2.1).mono fun _ _ ⟨h1, h2⟩ => ⟨undef, h1.trans (by rw [← cmp0 (by omega)]; rfl), h2, trivial⟩⟩), (fun h50_0 => ⟨(by decide), rfl⟩), (rfl), (fun h50_0 => rfl), (rfl), (rfl), (rfl), (⟨rfl, rfl, rfl⟩), (⟨rfl, rfl, rfl⟩), (⟨⟨en_ncmp, fun w Hw => ncmp_any (((leV X) + (leV Y)) - (leV Y)) lv46 (qok (by rw [sub_add]; exact (le_b (of60 bX) (by decide)))) (leV X) lv10 w ((hN61.get 1 rfl).at (Has.tl (Has.tl (Has.tl (Has.tl (Has.tl Hw)))))) ((hN61.get 4 rfl).at (Has.tl (Has.tl (Has.tl (Has.tl (Has.tl Hw))))))⟩, rfl⟩), (⟨(dec_t (by rw [sub_add]; exact cmp_self _)), rfl⟩), (rfl), (rfl), (rfl), (⟨rfl, rfl, rfl⟩), (⟨rfl, rfl, rfl⟩), (⟨⟨en_ncmp, fun w Hw => ncmp_any (leV X) lv10 (qok (le_b (of60 bX) (by decide))) (leV Y) lv19 w ((hN61.get 4 rfl).at (Has.tl (Has.tl (Has.tl (Has.tl (Has.tl Hw)))))) ((hN61.get 3 rfl).at (Has.tl (Has.tl (Has.tl (Has.tl (Has.tl Hw))))))⟩, rfl⟩), (⟨(congrArg Value.bool (ge_cmp _ _)), rfl⟩), (⟨(eqB_same (eqB_ok (t := 4) (t' := 4) (x := (.tmp 112)) (y := (.tmp 116)) (p := decide ((leV Y) ≤ (leV X))) (q := decide (leV Y ≤ leV X)) (by kernel_rfl) Tryd.underlying4 rfl rfl)), rfl⟩), (rfl), (rfl), (⟨rfl, rfl, rfl⟩), (⟨rfl, rfl, rfl⟩), (⟨⟨en_ncmp, fun w Hw => ncmp_any (leV X) lv10 (qok (le_b (of60 bX) (by decide))) (leV Y) lv19 w ((hN61.get 4 rfl).at (Has.tl (Has.tl (Has.tl (Has.tl (Has.tl Hw)))))) ((hN61.get 3 rfl).at (Has.tl (Has.tl (Has.tl (Has.tl (Has.tl Hw))))))⟩, rfl⟩), (⟨rfl, rfl, rfl⟩), (⟨rfl, rfl, rfl⟩), (⟨⟨en_ncmp, fun w Hw => ncmp_any (leV Y) lv19 (qok (le_b (of60 bY) (by decide))) (leV X) lv10 w ((hN61.get 3 rfl).at (Has.tl (Has.tl (Has.tl (Has.tl (Has.tl Hw)))))) ((hN61.get 4 rfl).at (Has.tl (Has.tl (Has.tl (Has.tl (Has.tl Hw))))))⟩, rfl⟩), (⟨(negZ_ok (t := 3) (x := .tmp 125) (by kernel_rfl) rfl (cmpN_is _ _)), rfl⟩), (⟨(dec_t (cmp_anti _ _)), rfl⟩), (rfl), (rfl), (⟨⟨en_wakes, fun w Hw => wakes_w w (hT_63.at (Has.tl (Has.tl (Has.tl (Has.tl (Has.tl Hw))))))⟩, rfl⟩), (rfl), (fun h3_0 h4_1 h5_2 h6_3 h9_4 h10_5 h13_6 h14_7 h15_8 h16_9 h17_10 h22_11 h23_12 h25_13 h26_14 h30_15 h31_16 h32_17 h33_18 h34_19 h41_20 h42_21 h46_22 h47_23 h48_24 h49_25 h50_26 => rfl), trivial⟩) (fun lx ac66 wd66 hx67 hB68 FF66 MM66 => ?_))
        obtain ⟨hl3, hl4, hl5, hl6, hl9, hl10, hl13, hl14, hl15, hl16, hl17, hl22, hl23, hl25, hl26, hl30, hl31, hl32, hl33, hl34, hl41, hl42, hl46, hl47, hl48, hl49, hl50, -⟩ := hx67
        generalize lx 3 = lv69 at *
        generalize lx 4 = lv70 at *
        generalize lx 5 = lv71 at *
        generalize lx 6 = lv72 at *
        generalize lx 9 = lv73 at *
        generalize lx 10 = lv74 at *
        generalize lx 13 = lv75 at *
        generalize lx 14 = lv76 at *
        generalize lx 15 = lv77 at *
        generalize lx 16 = lv78 at *
        generalize lx 17 = lv79 at *
        generalize lx 22 = lv80 at *
        generalize lx 23 = lv81 at *
        generalize lx 25 = lv82 at *
        generalize lx 26 = lv83 at *
        generalize lx 30 = lv84 at *
        generalize lx 31 = lv85 at *
        generalize lx 32 = lv86 at *
        generalize lx 33 = lv87 at *
        generalize lx 34 = lv88 at *
        generalize lx 41 = lv89 at *
        generalize lx 42 = lv90 at *
        generalize lx 46 = lv91 at *
        generalize lx 47 = lv92 at *
        generalize lx 48 = lv93 at *
        generalize lx 49 = lv94 at *
        generalize lx 50 = lv95 at *
        refine wpl_nil (then_n ?_)
        refine wp_ret ?_
        repeat first | refine then_ret ?_ | refine inb_ret ?_
        exact (ret_fr FF66 0 Tryd.results6 rfl ⟨rfl, MM66.belowN H (fun _ hx => List.mem_cons_of_mem _ (List.mem_cons_of_mem _ (List.mem_cons_of_mem _ (List.mem_cons_of_mem _ (List.mem_cons_of_mem _ (hz64 _ hx))))))⟩)

end Go.Proofs.YtcannnmpemnklaaDoor
namespace Go.Proofs.YtcannnmpemnklaaDoor
open Go.RowKit

theorem en_Long : Enters Tryd.prog 21 := fun args w => by simp [go_sem]
set_option maxRecDepth 100000 in
theorem longm (Ps : List (List Nat)) (m : Nat) (hm : m < 9223372036854775808) (hn : Ps.length < 9223372036854775808) (pb off cap T9 : Nat) (fr : Nat × Nat) (cs : Array Value) (hp : ∀ j, j < Ps.length → cs[off + j]? = some (.string (bs (Ps.getD j [])))) (w0 : World) (hb : w0.heap[pb]? = some (.cells cs T9 fr)) :
    Calls Tryd.prog 21 #[.slice (some ⟨pb, off, none⟩) Ps.length cap, .int .i64 (m : Nat)] w0 fun e w' => e = .returned (.bool (decide (Ps.flatten.length > m))) ∧ Below w0.heap.size w0 w' := by
  have MM := MemS.start1 hb
  refine enter_fr Tryd.func21 rfl Tryd.ntmps21 (by simp) fun ac (FF : Fr 26 ac [(0, .slice (some ⟨pb, off, none⟩) Ps.length cap), (1, .int .i64 (m : Nat))]) => ?_
  refine wp_seq (rg_seq FF MM [o_] [0, 1, 4] (fun Kt => Kt [(4, .bool false), (0, .slice (some ⟨pb, off, none⟩) Ps.length cap), (1, .int .i64 (m : Nat))] [(pb, .cells cs T9 fr)]) (by kernel_rfl) (fun _ => by kernel_rfl) (fun ac1 wd1 FF1 MM1 => then_n ?_))
  refine wp_seq ?_
  refine wp_seq (rg_seq FF1 MM1 [o_] [4, 0, 1, 5] (fun Kt => Kt [(5, .int .i64 (0 : Nat)), (4, .bool false), (0, .slice (some ⟨pb, off, none⟩) Ps.length cap), (1, .int .i64 (m : Nat))] [(pb, .cells cs T9 fr)]) (by kernel_rfl) (fun _ => by kernel_rfl) (fun ac2 wd2 FF2 MM2 => then_n ?_))
  refine wp_for2 (fun a' w' => ∃ i : Nat, i ≤ Ps.length ∧ (Ps.take i).flatten.length ≤ m ∧ Fr 26 a' [(5, .int .i64 (i : Nat)), (0, .slice (some ⟨pb, off, none⟩) Ps.length cap), (1, .int .i64 (m - (Ps.take i).flatten.length : Nat))] ∧ MemS (fun k => k < w0.heap.size ∧ k ≠ pb) w0 w' [(pb, .cells cs T9 fr)] []) (fun a' _ => (Ps.length - cnt 5 a').toNat) ⟨0, by omega, by simp, FF2.pick [0, 2, 3], MM2⟩ ?_
  rintro ac3 wd3 ⟨i, hi, hs, FF3, MM3⟩
  have hc := cnt_of (FF3.get 0 rfl)
  refine rg_seq FF3 MM3 [o_, o_, o_, o_] [5, 0, 1, 9] (fun Kt => Kt [(9, .bool (decide (i < Ps.length))), (5, .int .i64 (i : Nat)), (0, .slice (some ⟨pb, off, none⟩) Ps.length cap), (1, .int .i64 (m - (Ps.take i).flatten.length : Nat))] [(pb, .cells cs T9 fr)]) (by kernel_rfl) (fun _ => by kernel_rfl) (fun ac4 wd4 FF4 MM4 => ?_)
  by_cases hlt : i < Ps.length
  · skip
    refine then_n (.inl ⟨(FF4.ev 0 rfl).trans (dec_t hlt), ?_⟩)
    refine wp_seq ?_
    have hft := congrArg List.length (flat_take Ps i hlt)
    rw [List.length_append] at hft
    have hfl := flat_le Ps (i + 1)
    refine wp_seq (rg_seq FF4 MM4 [o_, o_, o_, l_ 0 (.string (bs (Ps.getD i []))), t_ (.int .i64 ((Ps.getD i []).length : Nat)), o_, o_] [5, 0, 1, 18] (fun Kt => i < Ps.length ∧ pb = pb ∧ cs[off + i]? = some (.string (bs (Ps.getD i []))) ∧ Value.int .i64 ((bs (Ps.getD i [])).size : Nat) = .int .i64 ((Ps.getD i []).length : Nat) ∧ Kt [(18, .bool (decide (((Ps.getD i []).length) > (m - (Ps.take i).flatten.length)))), (5, .int .i64 (i : Nat)), (0, .slice (some ⟨pb, off, none⟩) Ps.length cap), (1, .int .i64 (m - (Ps.take i).flatten.length : Nat))] [(pb, .cells cs T9 fr)]) (by kernel_rfl) (fun _ => by kernel_rfl) (⟨(by omega), rfl, (hp i hlt), (vI (bs_size _)), fun ac5 wd5 FF5 MM5 => then_n ?_⟩))
    by_cases hs18 : ((Ps.getD i []).length) > (m - (Ps.take i).flatten.length)
    · refine wp_cond_true ((FF5.ev 0 rfl).trans (dec_t hs18)) ?_
      refine wp_seq (rg_seq FF5 MM5 [o_] [5, 0, 1, 4] (fun Kt => Kt [(4, .bool true), (5, .int .i64 (i : Nat)), (0, .slice (some ⟨pb, off, none⟩) Ps.length cap), (1, .int .i64 (m - (Ps.take i).flatten.length : Nat))] [(pb, .cells cs T9 fr)]) (by kernel_rfl) (fun _ => by kernel_rfl) (fun ac6 wd6 FF6 MM6 => then_n ?_))
      refine wp_ret ?_
      repeat first | refine then_ret ?_ | refine inb_ret ?_
      exact (ret_fr FF6 0 Tryd.results21 rfl ⟨by rw [decide_eq_true (by omega)], MM6.below1 0 rfl hb⟩)
    · refine wp_cond_false ((FF5.ev 0 rfl).trans (dec_f hs18)) ?_
      refine wp_skip ?_
      refine then_n ?_
      refine rg_seq FF5 MM5 [o_, o_, o_, o_, l_ 0 (.string (bs (Ps.getD i []))), t_ (.int .i64 ((Ps.getD i []).length : Nat)), t_ (.int .i64 (m - (Ps.take (i + 1)).flatten.length : Nat)), o_] [5, 0, 1] (fun Kt => i < Ps.length ∧ pb = pb ∧ cs[off + i]? = some (.string (bs (Ps.getD i []))) ∧ Value.int .i64 ((bs (Ps.getD i [])).size : Nat) = .int .i64 ((Ps.getD i []).length : Nat) ∧ ((Ps.getD i []).length) ≤ (m - (Ps.take i).flatten.length) ∧ (m - (Ps.take i).flatten.length) - ((Ps.getD i []).length) < 9223372036854775808 ∧ Value.int .i64 ((m - (Ps.take i).flatten.length) - ((Ps.getD i []).length) : Nat) = .int .i64 (m - (Ps.take (i + 1)).flatten.length : Nat) ∧ Kt [(1, .int .i64 (m - (Ps.take (i + 1)).flatten.length : Nat)), (5, .int .i64 (i : Nat)), (0, .slice (some ⟨pb, off, none⟩) Ps.length cap)] [(pb, .cells cs T9 fr)]) (by kernel_rfl) (fun _ => by kernel_rfl) (⟨(by omega), rfl, (hp i hlt), (vI (bs_size _)), (by omega), (by omega), (vI (by omega)), fun ac7 wd7 FF7 MM7 => ?_⟩)
      have hs2 : (Ps.take (i + 1)).flatten.length ≤ m := by omega
      refine inb_n (then_n ?_)
      refine rg_seq FF7 MM7 [o_, o_, o_] [1, 5, 0] (fun Kt => i + 1 < 9223372036854775808 ∧ Kt [(5, .int .i64 (i + 1 : Nat)), (1, .int .i64 (m - (Ps.take (i + 1)).flatten.length : Nat)), (0, .slice (some ⟨pb, off, none⟩) Ps.length cap)] [(pb, .cells cs T9 fr)]) (by kernel_rfl) (fun _ => by kernel_rfl) (⟨(by omega), fun ac8 wd8 FF8 MM8 => ?_⟩)
      have hd := cnt_of (FF8.get 0 rfl)
      refine then_n ⟨⟨i + 1, by omega, hs2, FF8.pick [0, 2, 1], MM8⟩, ?_⟩
      rw [hc, hd]; omega
  · skip
    refine then_n (.inr ⟨(FF4.ev 0 rfl).trans (dec_f hlt), ?_⟩)
    obtain rfl : i = Ps.length := by omega
    rw [List.take_length] at hs
    refine then_n ?_
    refine wp_seq (rg_seq FF4 MM4 [o_] [5, 0, 1, 4] (fun Kt => Kt [(4, .bool false), (5, .int .i64 (Ps.length : Nat)), (0, .slice (some ⟨pb, off, none⟩) Ps.length cap), (1, .int .i64 (m - (Ps.take Ps.length).flatten.length : Nat))] [(pb, .cells cs T9 fr)]) (by kernel_rfl) (fun _ => by kernel_rfl) (fun ac9 wd9 FF9 MM9 => then_n ?_))
    refine wp_ret ?_
    repeat first | refine then_ret ?_ | refine inb_ret ?_
    exact (ret_fr FF9 0 Tryd.results21 rfl ⟨by rw [decide_eq_false (by omega)], MM9.below1 0 rfl hb⟩)
set_option maxRecDepth 100000 in
theorem long_empty (m : Nat) (p : Option Addr) (cap : Nat) (w0 : World) :
    Calls Tryd.prog 21 #[.slice p 0 cap, .int .i64 (m : Nat)] w0 fun e w' => e = .returned (.bool false) ∧ Below w0.heap.size w0 w' := by
  refine enter_fr Tryd.func21 rfl Tryd.ntmps21 (by simp) fun ac (FF : Fr 26 ac [(0, .slice p 0 cap), (1, .int .i64 (m : Nat))]) => ?_
  have MM := MemS.start w0
  refine wp_seq (rg_seq FF MM [o_] [0, 1, 4] (fun Kt => Kt [(4, .bool false), (0, .slice p 0 cap), (1, .int .i64 (m : Nat))] []) (by kernel_rfl) (fun _ => by kernel_rfl) (fun ac1 wd1 FF1 MM1 => then_n ?_))
  refine wp_seq ?_
  refine wp_seq (rg_seq FF1 MM1 [o_] [4, 0, 1, 5] (fun Kt => Kt [(5, .int .i64 (0 : Nat)), (4, .bool false), (0, .slice p 0 cap), (1, .int .i64 (m : Nat))] []) (by kernel_rfl) (fun _ => by kernel_rfl) (fun ac2 wd2 FF2 MM2 => then_n ?_))
  refine wp_for2 (fun a' w' => Fr 26 a' [(5, .int .i64 (0 : Nat)), (0, .slice p 0 cap), (1, .int .i64 (m : Nat))] ∧ MemS (fun k => k < w0.heap.size) w0 w' [] []) (fun a' _ => 0) ⟨FF2.pick [0, 2, 3], MM2⟩ ?_
  rintro ac3 wd3 ⟨FF3, MM3⟩
  refine rg_seq FF3 MM3 [o_, o_, o_, w_ 3] [5, 0, 1, 9] (fun Kt => ¬ (0 < 0) ∧ Kt [(9, .bool false), (5, .int .i64 (0 : Nat)), (0, .slice p 0 cap), (1, .int .i64 (m : Nat))] []) (by kernel_rfl) (fun _ => by kernel_rfl) (⟨(by decide), fun ac4 wd4 FF4 MM4 => ?_⟩)
  refine then_n (.inr ⟨FF4.ev 0 rfl, ?_⟩)
  refine then_n ?_
  refine wp_seq (rg_seq FF4 MM4 [o_] [5, 0, 1, 4] (fun Kt => Kt [(4, .bool false), (5, .int .i64 (0 : Nat)), (0, .slice p 0 cap), (1, .int .i64 (m : Nat))] []) (by kernel_rfl) (fun _ => by kernel_rfl) (fun ac5 wd5 FF5 MM5 => then_n ?_))
  refine wp_ret ?_
  repeat first | refine then_ret ?_ | refine inb_ret ?_
  exact (ret_fr FF5 0 Tryd.results21 rfl ⟨rfl, MM5.below⟩)
theorem long_S (m : Nat) (hm : m < 9223372036854775808) (Ps : List (List Nat)) (hn : Ps.length < 9223372036854775808) (p : Option Addr) (cap : Nat) (w0 : World) (h : StrsIn w0 p Ps) :
    Calls Tryd.prog 21 #[.slice p Ps.length cap, .int .i64 (m : Nat)] w0 fun e w' => e = .returned (.bool (decide (Ps.flatten.length > m))) ∧ Below w0.heap.size w0 w' := by
  rcases h with rfl | ⟨b, off, cs, T, fr, rfl, hb, hc⟩
  · rw [decide_eq_false (show ¬ ([] : List (List Nat)).flatten.length > m by simp)]
    exact long_empty m p cap w0
  · exact longm Ps m hm hn b off cap T fr cs hc w0 hb
def oOf (p : Option Addr) : Nat := match p with | some x => x.off | none => 0
theorem strAddr_ok {P : Program} {l : Slots} {L O : Blks} {o : Oper} {t e : TypeId} {x y : Operand} {p : Option Addr} {Ps : List (List Nat)} {i c : Nat} (ho : o.op = .indexAddr t x y) (hx : evO l x = some (.slice p Ps.length c)) (hy : evO l y = some (.int .i64 (i : Nat))) (ht : P.underlying t = some (.slice e)) (hz : szOf P e = some 1) (h : StrsO O p Ps) (hi : i < Ps.length) :
    RunV P l L o (.pointer (some ⟨gOf p, oOf p + i, none⟩)) := fun ρ w A _ => by
  rcases h with rfl | ⟨b, off, cs, T, fr, rfl, h2, h3⟩
  · exact absurd hi (Nat.not_lt_zero _)
  · have e1 := A x _ hx
    have e2 : ρ y = .int .i64 (i : Int) := A y _ hy
    have q := run_idxAddr (P := P) (w := w) (way := 1) (t := t) (u := .slice (some ⟨b, off, none⟩) Ps.length c) (z := .pointer (some ⟨b, off + i, none⟩)) (i := i) (cs := [i < Ps.length]) (by cases off <;> simp [aIdxAddr, ht, hz, addOff, mulSz]) (fun c hc => by rw [List.mem_singleton] at hc; rw [hc]; exact hi)
    simp only [execOp, ho, e1, e2, Sem.run_bind, q, Result.andThen_ok, Sem.run_pure, gOf, oOf]
theorem strLoad_ok {P : Program} {l : Slots} {L O : Blks} {o : Oper} {t : TypeId} {x : Operand} {p : Option Addr} {Ps : List (List Nat)} {i : Nat} {d : TypeDesc} (ho : o.op = .load t x) (hx : evO l x = some (.pointer (some ⟨gOf p, oOf p + i, none⟩))) (ht : P.underlying t = some d) (hd : d.isRow = false) (h : StrsO O p Ps) (hO : ∀ y ∈ O, y ∈ L) (hi : i < Ps.length) : RunV P l L o (.string (bs (Ps.getD i []))) := fun ρ w A H => by
  rcases h with rfl | ⟨b, off, cs, T, fr, rfl, h2, h3⟩
  · exact absurd hi (Nat.not_lt_zero _)
  · have e1 : ρ x = .pointer (some ⟨b, off + i, none⟩) := A x _ hx
    have hcell : w.cell? ⟨b, off + i, none⟩ = some (.string (bs (Ps.getD i []))) := by rw [cell_of (Has.mem H (hO _ h2))]; exact h3 i hi
    have hag := isAgg_of (P := P) (w := w) ht
    rw [hd] at hag
    simp only [execOp, ho, e1]
    simp [Instr.loadAt, Instr.sureAddr, loadVar, hag, go_sem, hcell]
def vls : List Nat → List Value → List Value
  | n :: ns, x :: xs => nv n x :: vls ns xs
  | _, _ => []
theorem vls_app : ∀ (ns : List Nat) (xs : List Value) (N : Nat) (v : Value), xs.length = ns.length → vls ns xs ++ [nv N v] = vls (ns ++ [N]) (xs ++ [v])
  | [], [], _, _, _ => rfl
  | [], _ :: _, _, _, h => by simp at h
  | _ :: _, [], _, _, h => by simp at h
  | n :: ns, x :: xs, N, v, h => by simp only [vls, List.cons_append]; rw [vls_app ns xs N v (by simpa using h)]
theorem vls_get : ∀ (ns : List Nat) (xs : List Value), xs.length = ns.length → ∀ j, j < ns.length → (vls ns xs)[j]? = some (nvs ns xs j)
  | [], _, _, j, hj => absurd hj (Nat.not_lt_zero _)
  | _ :: _, [], h, _, _ => by simp at h
  | n :: ns, x :: xs, h, 0, _ => rfl
  | n :: ns, x :: xs, h, j + 1, hj => by
    have := vls_get ns xs (by simpa using h) j (by simpa using hj)
    simpa [vls, nvs] using this
/-- A row of numbers goes to the list's end. -/
theorem MemS.sinkRow {S : Nat → Prop} {w0 w : World} {K O : Blks} {R : List Row} {rv : Value} {n : Nat} {e : TypeId} {ns : List Nat} {xs : List Value} (M : MemS S w0 w (K ++ O) ((rv, e, 1, n, vls ns xs) :: R)) (hn : ns.length = n) (hx : xs.length = ns.length) (hN : ∀ j, j < ns.length → NatO O (nvs ns xs j) (ns.getD j 0)) :
    ∃ q c O2, rv = .slice q ns.length c ∧ MemS S w0 w (K ++ O2) R ∧ NatsO O2 q ns xs ∧ ∀ x ∈ O, x ∈ O2 := by
  rcases M.rowForm with ⟨h1, h2⟩ | ⟨g, cap, rfl⟩
  · refine ⟨none, 0, O, by rw [h1, hn, h2], M.dropRow, ⟨.inl (by omega), hN⟩, fun _ h => h⟩
  · obtain ⟨cur, m1, m2, m3, m4, m5, m6, m7⟩ := M.freeze
    refine ⟨some ⟨g, 0, none⟩, cap, (g, .cells cur e) :: O, by rw [hn], m1.perm List.perm_middle.symm, ⟨.inr ⟨g, cur, e, (0, 0), rfl, by simp, fun j hj => ?_⟩, fun j hj => (hN j hj).mono fun _ h => List.mem_cons_of_mem _ h⟩, fun _ h => List.mem_cons_of_mem _ h⟩
    have h3 := vls_get ns xs hx j hj
    rw [← m6, List.getElem?_take, if_pos (by omega)] at h3
    simpa using h3
theorem NatO_app {O O2 : Blks} {ns : List Nat} {xs : List Value} {N : Nat} {v : Value} (hx : xs.length = ns.length) (h : ∀ j, j < ns.length → NatO O (nvs ns xs j) (ns.getD j 0)) (hs : ∀ x ∈ O, x ∈ O2) (hv : NatO O2 (nv N v) N) : ∀ j, j < (ns ++ [N]).length → NatO O2 (nvs (ns ++ [N]) (xs ++ [v]) j) ((ns ++ [N]).getD j 0) := fun j hj => by
  rw [List.length_append, List.length_singleton] at hj
  rcases Nat.lt_or_ge j ns.length with h1 | h1
  · have := (h j h1).mono hs
    simpa [nvs, List.getD_eq_getElem?_getD, List.getElem?_append_left h1, List.getElem?_append_left (show j < xs.length by omega)] using this
  · obtain rfl : j = ns.length := by omega
    have e1 : (ns ++ [N]).getD ns.length 0 = N := by simp [List.getD_eq_getElem?_getD]
    have e2 : (xs ++ [v]).getD ns.length undef = v := by rw [← hx]; simp [List.getD_eq_getElem?_getD]
    unfold nvs
    rw [e1, e2]
    exact hv
theorem sz_add8 (M N : Nat) : sz (M + N) ≤ sz M + sz N + 1 := by
  refine sz_le ?_
  have h1 := lt_sz (N := M) (n := sz M + sz N) (by omega)
  have h2 := lt_sz (N := N) (n := sz M + sz N) (by omega)
  have h3 : 256 ^ (sz M + sz N + 1) = 256 ^ (sz M + sz N) * 256 := Nat.pow_succ ..
  omega
theorem qsz_sz8 (N : Nat) : qsz N ≤ sz N := qsz_le (Nat.lt_of_lt_of_le (sz_ok N).1 (Nat.pow_le_pow_left (by decide) _))
theorem sum_snoc (ns : List Nat) (N : Nat) : (ns ++ [N]).sum = ns.sum + N := by simp
theorem prN_snoc (ns : List Nat) (N : Nat) : prN (ns ++ [N]) = prN ns * N := by simp [prN]
theorem take_snoc (Ps : List (List Nat)) (i : Nat) (h : i < Ps.length) : (Ps.take (i + 1)).map leV = (Ps.take i).map leV ++ [leV (Ps.getD i [])] := by
  rw [List.take_add_one, List.map_append, List.getElem?_eq_getElem h]
  congr 1
  simp [List.getD_eq_getElem?_getD, List.getElem?_eq_getElem h]
theorem len_flat (Ps : List (List Nat)) (i : Nat) : (Ps.getD i []).length ≤ Ps.flatten.length := by
  rcases Nat.lt_or_ge i Ps.length with h | h
  · rw [List.getD_eq_getElem?_getD, List.getElem?_eq_getElem h]
    exact (List.sublist_flatten_of_mem (List.getElem_mem h)).length_le
  · rw [List.getD_eq_getElem?_getD, List.getElem?_eq_none h]; exact Nat.zero_le _
theorem getD_lt8 {Ps : List (List Nat)} (hP : ∀ X ∈ Ps, ∀ i, X.getD i 0 < 256) (j : Nat) : ∀ i, (Ps.getD j []).getD i 0 < 256 := by
  rcases Nat.lt_or_ge j Ps.length with h | h
  · rw [List.getD_eq_getElem?_getD, List.getElem?_eq_getElem h]; exact hP _ (List.getElem_mem h)
  · rw [List.getD_eq_getElem?_getD, List.getElem?_eq_none h]; intro i; simp
theorem all_get {Ps : List (List Nat)} {ns : List Nat} (h : ns = (Ps.take Ps.length).map leV) (j : Nat) : leV (Ps.getD j []) = ns.getD j 0 := by
  subst h
  rw [List.take_length]
  rcases Nat.lt_or_ge j Ps.length with h | h
  · simp [List.getD_eq_getElem?_getD, List.getElem?_eq_getElem h]
  · simp [List.getD_eq_getElem?_getD, List.getElem?_eq_none h, leV]
theorem subN_eq (M N : Nat) : subN M N = minB (M - N) := by
  unfold subN
  split
  · rfl
  · rw [Nat.sub_eq_zero_of_le (by omega)]; rfl
theorem neqB_same {P : Program} {l : Slots} {L : Blks} {o : Oper} {p : Bool} (h : RunV P l L o (.bool (p != p))) : RunV P l L o (.bool false) := by rwa [bne_self_eq_false] at h
theorem lies_one {w : World} {b : Nat} {v : Value} {T : TypeId} {fr : Nat × Nat} (h : w.heap[b]? = some (.cells #[v] T fr)) : ∀ (j : Nat) u, [v][j]? = some u → w.cell? ((⟨b, 0, none⟩ : Addr).add j) = some u := fun j u hu => by
  rw [add_off, cell_of h, ← hu]; simp
set_option maxRecDepth 100000 in
theorem natsums_len (O : Blks) (hD : Distinct O) (hT : TabO O) (p : Option Addr) (Ps : List (List Nat)) (cap : Nat) (_hP : ∀ X ∈ Ps, ∀ i, X.getD i 0 < 256) (_hn : Ps.length < 9223372036854775808) (_hO : StrsO O p Ps) (hL : Ps.length > 12) (w0 : World) (H : Has w0 O) :
    Calls Tryd.prog 4 #[.slice p Ps.length cap] w0 fun e w' => e = .returned (.bool true) ∧ Below w0.heap.size w0 w' := by
  refine enter_fr Tryd.func4 rfl Tryd.ntmps4 (by simp) fun ac (FF : Fr 109 ac [(0, .slice p Ps.length cap)]) => ?_
  have MM : MemS (fun k => k < w0.heap.size ∧ ∀ x ∈ O, x.1 ≠ k) w0 w0 O [] := MemS.startN H hD
  refine wp_seq (rg_seq FF MM [o_] [0, 2] (fun Kt => Kt [(2, .bool false), (0, .slice p Ps.length cap)] O) (by kernel_rfl) (fun _ => by kernel_rfl) (fun ac1 wd1 FF1 MM1 => then_n ?_))
  refine wp_seq ?_
  refine wp_seq (rg_seq FF1 MM1 [o_, o_, w_ 2, o_, o_, o_, o_] [2, 0, 18] (fun Kt => Ps.length > 12 ∧ Kt [(18, .bool true), (2, .bool false), (0, .slice p Ps.length cap)] O) (by kernel_rfl) (fun _ => by kernel_rfl) (⟨hL, fun ac2 wd2 FF2 MM2 => then_n ?_⟩))
  refine wp_cond_true (FF2.ev 0 rfl) ?_
  refine wp_seq (rg_seq FF2 MM2 [u_ 1 (.bool true), o_] [2, 0] (fun Kt => CallP Tryd.prog 8 [] O (.bool true) ∧ Kt [(2, .bool true), (0, .slice p Ps.length cap)] O) (by kernel_rfl) (fun _ => by kernel_rfl) (⟨⟨en_wakes, fun w Hw => wakes_w w (hT.at Hw)⟩, fun ac3 wd3 FF3 MM3 => then_n ?_⟩))
  refine wp_ret ?_
  repeat first | refine then_ret ?_ | refine inb_ret ?_
  exact (ret_fr FF3 0 Tryd.results4 rfl ⟨rfl, MM3.belowN H (fun _ hx => hx)⟩)
set_option maxRecDepth 100000 in
theorem natsums_long (O : Blks) (hD : Distinct O) (hT : TabO O) (p : Option Addr) (Ps : List (List Nat)) (cap : Nat) (_hP : ∀ X ∈ Ps, ∀ i, X.getD i 0 < 256) (hn : Ps.length < 9223372036854775808) (hO : StrsO O p Ps) (hL : ¬ Ps.length > 12) (hF : Ps.flatten.length > 200) (w0 : World) (H : Has w0 O) :
    Calls Tryd.prog 4 #[.slice p Ps.length cap] w0 fun e w' => e = .returned (.bool true) ∧ Below w0.heap.size w0 w' := by
  refine enter_fr Tryd.func4 rfl Tryd.ntmps4 (by simp) fun ac (FF : Fr 109 ac [(0, .slice p Ps.length cap)]) => ?_
  have MM : MemS (fun k => k < w0.heap.size ∧ ∀ x ∈ O, x.1 ≠ k) w0 w0 O [] := MemS.startN H hD
  refine wp_seq (rg_seq FF MM [o_] [0, 2] (fun Kt => Kt [(2, .bool false), (0, .slice p Ps.length cap)] O) (by kernel_rfl) (fun _ => by kernel_rfl) (fun ac1 wd1 FF1 MM1 => then_n ?_))
  refine wp_seq ?_
  refine wp_seq (rg_seq FF1 MM1 [o_, o_, w_ 3, o_, o_, u_ 1 (.bool true), o_] [2, 0, 18] (fun Kt => ¬ (Ps.length > 12) ∧ CallP Tryd.prog 21 [.slice p Ps.length cap, .int .i64 (200 : Nat)] O (.bool true) ∧ Kt [(18, .bool true), (2, .bool false), (0, .slice p Ps.length cap)] O) (by kernel_rfl) (fun _ => by kernel_rfl) (⟨hL, ⟨en_Long, fun w Hw => by have h0 := long_S 200 (by decide) Ps hn p cap w (hO.at Hw); rw [decide_eq_true hF] at h0; exact h0⟩, fun ac2 wd2 FF2 MM2 => then_n ?_⟩))
  refine wp_cond_true (FF2.ev 0 rfl) ?_
  refine wp_seq (rg_seq FF2 MM2 [u_ 1 (.bool true), o_] [2, 0] (fun Kt => CallP Tryd.prog 8 [] O (.bool true) ∧ Kt [(2, .bool true), (0, .slice p Ps.length cap)] O) (by kernel_rfl) (fun _ => by kernel_rfl) (⟨⟨en_wakes, fun w Hw => wakes_w w (hT.at Hw)⟩, fun ac3 wd3 FF3 MM3 => then_n ?_⟩))
  refine wp_ret ?_
  repeat first | refine then_ret ?_ | refine inb_ret ?_
  exact (ret_fr FF3 0 Tryd.results4 rfl ⟨rfl, MM3.belowN H (fun _ hx => hx)⟩)
set_option maxRecDepth 100000 in
theorem natsums_main (O : Blks) (hD : Distinct O) (hT : TabO O) (p : Option Addr) (Ps : List (List Nat)) (cap : Nat) (hP : ∀ X ∈ Ps, ∀ i, X.getD i 0 < 256) (hn : Ps.length < 9223372036854775808) (hO : StrsO O p Ps) (hL : ¬ Ps.length > 12) (hF : ¬ Ps.flatten.length > 200) (w0 : World) (H : Has w0 O) :
    Calls Tryd.prog 4 #[.slice p Ps.length cap] w0 fun e w' => e = .returned (.bool true) ∧ Below w0.heap.size w0 w' := by
  refine enter_fr Tryd.func4 rfl Tryd.ntmps4 (by simp) fun ac (FF : Fr 109 ac [(0, .slice p Ps.length cap)]) => ?_
  have MM : MemS (fun k => k < w0.heap.size ∧ ∀ x ∈ O, x.1 ≠ k) w0 w0 O [] := MemS.startN H hD
  refine wp_seq (rg_seq FF MM [o_] [0, 2] (fun Kt => Kt [(2, .bool false), (0, .slice p Ps.length cap)] O) (by kernel_rfl) (fun _ => by kernel_rfl) (fun ac1 wd1 FF1 MM1 => then_n ?_))
  refine wp_seq ?_
  refine wp_seq (rg_seq FF1 MM1 [o_, o_, w_ 3, o_, o_, u_ 1 (.bool false), o_] [2, 0, 18] (fun Kt => ¬ (Ps.length > 12) ∧ CallP Tryd.prog 21 [.slice p Ps.length cap, .int .i64 (200 : Nat)] O (.bool false) ∧ Kt [(18, .bool false), (2, .bool false), (0, .slice p Ps.length cap)] O) (by kernel_rfl) (fun _ => by kernel_rfl) (⟨hL, ⟨en_Long, fun w Hw => by have h0 := long_S 200 (by decide) Ps hn p cap w (hO.at Hw); rw [decide_eq_false hF] at h0; exact h0⟩, fun ac2 wd2 FF2 MM2 => then_n ?_⟩))
  have hlp : ∀ j, (Ps.getD j []).length ≤ 200 := fun j => Nat.le_trans (len_flat Ps j) (Nat.not_lt.1 hF)
  have hzp : ∀ j, sz (leV (Ps.getD j [])) ≤ 200 := fun j => sz_le (Nat.lt_of_lt_of_le (leV_lt _ (getD_lt8 hP j)) (pw_le (hlp j)))
  refine wp_cond_false (FF2.ev 0 rfl) ?_
  refine wp_skip ?_
  refine then_n ?_
  refine wp_seq (rg_seq FF2 MM2 [o_] [2, 0, 3] (fun Kt => Kt [(3, .slice none 0 0), (2, .bool false), (0, .slice p Ps.length cap)] O) (by kernel_rfl) (fun _ => by kernel_rfl) (fun ac3 wd3 FF3 MM3 => then_n ?_))
  have MMn := MM3.rowNil 27 1
  refine wp_seq (rg_seq FF3 MMn [t_ (.string (bs (minB 0))), t_ (.string (bs (minB 1))), o_, o_] [3, 2, 0, 4, 5] (fun Kt => CallP Tryd.prog 20 [.int .u64 (0 : Nat)] [] (.string (bs (minB 0))) ∧ CallP Tryd.prog 20 [.int .u64 (1 : Nat)] [] (.string (bs (minB 1))) ∧ Kt [(5, .string (bs (minB 1))), (4, .string (bs (minB 0))), (3, .slice none 0 0), (2, .bool false), (0, .slice p Ps.length cap)] O) (by kernel_rfl) (fun _ => by kernel_rfl) (⟨(callP_of en_rof (of_any 0 (by decide)) _), (callP_of en_rof (of_any 1 (by decide)) _), fun ac4 wd4 FF4 MM4 => then_n ?_⟩))
  refine wp_seq ?_
  refine wp_seq (rg_seq FF4 MM4 [o_] [5, 4, 3, 2, 0, 6] (fun Kt => Kt [(6, .int .i64 (0 : Nat)), (5, .string (bs (minB 1))), (4, .string (bs (minB 0))), (3, .slice none 0 0), (2, .bool false), (0, .slice p Ps.length cap)] O) (by kernel_rfl) (fun _ => by kernel_rfl) (fun ac5 wd5 FF5 MM5 => then_n ?_))
  refine wp_for2 (fun a' w' => ∃ O1 : Blks, ∃ rv : Value, ∃ ns : List Nat, ∃ xs : List Value, ∃ i : Nat, i ≤ Ps.length ∧ (∀ x ∈ O, x ∈ O1) ∧ ns = (Ps.take i).map leV ∧ ns.length = i ∧ xs.length = ns.length ∧ (∀ j, j < ns.length → NatO O1 (nvs ns xs j) (ns.getD j 0)) ∧ sz ns.sum ≤ 201 * i ∧ sz (prN ns) ≤ 1 + 200 * i ∧ Fr 109 a' [(6, .int .i64 (i : Nat)), (5, .string (bs (minB (prN ns)))), (4, .string (bs (minB ns.sum))), (3, rv), (2, .bool false), (0, .slice p Ps.length cap)] ∧ MemS (fun k => k < w0.heap.size ∧ ∀ x ∈ O, x.1 ≠ k) w0 w' O1 [(rv, 27, 1, i, (vls ns xs))]) (fun a' _ => (Ps.length - cnt 6 a').toNat) ⟨O, (.slice none 0 0), [], [], 0, Nat.zero_le _, fun _ h => h, rfl, rfl, rfl, fun j hj => absurd hj (Nat.not_lt_zero _), by decide, by decide, FF5.pick [0, 1, 2, 3, 4, 5], MM5⟩ ?_
  rintro ac6 wd6 ⟨O1, rv, ns, xs, i, hi, hsb, hns, hnl, hxl, hNN, hSz, hPz, FF6, MM6⟩
  have hT1 := hT.mono hsb
  have hO1 := hO.mono hsb
  have hc := cnt_of (FF6.get 0 rfl)
  refine rg_seq FF6 MM6 [o_, o_, o_, o_] [6, 5, 4, 3, 2, 0, 25] (fun Kt => Kt [(25, .bool (decide (i < Ps.length))), (6, .int .i64 (i : Nat)), (5, .string (bs (minB (prN ns)))), (4, .string (bs (minB ns.sum))), (3, rv), (2, .bool false), (0, .slice p Ps.length cap)] O1) (by kernel_rfl) (fun _ => by kernel_rfl) (fun ac7 wd7 FF7 MM7 => ?_)
  by_cases hlt : i < Ps.length
  · skip
    refine then_n (.inl ⟨(FF7.ev 0 rfl).trans (dec_t hlt), ?_⟩)
    refine wp_seq (wp_region_list ?_)
    refine rg_part 5 FF7 MM7 [o_, o_, o_, f_ (.pointer (some ⟨gOf p, oOf p + i, none⟩)), f_ (.string (bs (Ps.getD i [])))] [6, 5, 4, 3, 2, 0, 28, 32] (fun Kt => RunV Tryd.prog [(30, .int .i64 (i : Nat)), (29, .slice p Ps.length cap), (28, rv), (25, .bool (decide (i < Ps.length))), (6, .int .i64 (i : Nat)), (5, .string (bs (minB (prN ns)))), (4, .string (bs (minB ns.sum))), (3, rv), (2, .bool false), (0, .slice p Ps.length cap)] O1 (opAt Tryd.f4 8 3) (.pointer (some ⟨gOf p, oOf p + i, none⟩)) ∧ RunV Tryd.prog [(31, .pointer (some ⟨gOf p, oOf p + i, none⟩)), (30, .int .i64 (i : Nat)), (29, .slice p Ps.length cap), (28, rv), (25, .bool (decide (i < Ps.length))), (6, .int .i64 (i : Nat)), (5, .string (bs (minB (prN ns)))), (4, .string (bs (minB ns.sum))), (3, rv), (2, .bool false), (0, .slice p Ps.length cap)] O1 (opAt Tryd.f4 8 4) (.string (bs (Ps.getD i []))) ∧ Kt [(32, .string (bs (Ps.getD i []))), (28, rv), (6, .int .i64 (i : Nat)), (5, .string (bs (minB (prN ns)))), (4, .string (bs (minB ns.sum))), (3, rv), (2, .bool false), (0, .slice p Ps.length cap)] O1) (by kernel_rfl) (fun _ => by kernel_rfl) (⟨(strAddr_ok (t := 43) (x := .tmp 29) (y := .tmp 30) (i := i) (by kernel_rfl) rfl rfl Tryd.underlying43 (by kernel_rfl) hO1 hlt), (strLoad_ok (t := 9) (x := .tmp 31) (i := i) (by kernel_rfl) rfl Tryd.underlying9 rfl hO1 (fun _ hx => hx) hlt), fun ac8 wd8 FF8 MM8 => ?_⟩)
    refine st_callE [28, 6, 5, 4, 3, 2, 0, 33] FF8 (d := 33) (mk := fun v => .agg #[nv (leV (Ps.getD i [])) v]) en_nbytes rfl rfl (nbytes_any (Ps.getD i []) (getD_lt8 hP i) (by have := hlp i; omega) _) rfl (by kernel_rfl) (by decide) fun ac10 wd10 lv9 (FF10 : Fr 109 ac10 [(33, .agg (#[nv (leV (Ps.getD i [])) lv9] : Array Value)), (28, rv), (6, .int .i64 (i : Nat)), (5, .string (bs (minB (prN ns)))), (4, .string (bs (minB ns.sum))), (3, rv), (2, .bool false), (0, .slice p Ps.length cap)]) hr11 => ?_
    obtain ⟨O12, MM130, hN14, hs15⟩ := MemS.addNats (K := []) (O := O1) MM8 hr11.1 hr11.2 (Nats.nil O1)
    have MM13 : MemS (fun k => k < w0.heap.size ∧ ∀ x ∈ O, x.1 ≠ k) w0 wd10 O12 [(rv, 27, 1, i, (vls ns xs))] := MM130
    have hT_16 := hT1.mono hs15
    have hO_17 := hO1.mono hs15
    have hz18 : ∀ x ∈ O, x ∈ O12 := fun x hx => hs15 x (hsb x hx)
    refine rg_part 1 FF10 MM13 [o_] [28, 6, 5, 4, 3, 2, 0, 34] (fun Kt => ∀ bq, Kt [(34, .slice (some ⟨bq, 0, none⟩) 1 1), (28, rv), (6, .int .i64 (i : Nat)), (5, .string (bs (minB (prN ns)))), (4, .string (bs (minB ns.sum))), (3, rv), (2, .bool false), (0, .slice p Ps.length cap)] ((bq, .cells (#[nv (leV (Ps.getD i [])) lv9] : Array Value) 27) :: O12)) (by kernel_rfl) (fun _ => by kernel_rfl) (fun bq => fun ac19 wd19 FF19 MM19 => ?_)
    refine st_app [6, 5, 4, 3, 2, 0, 35] FF19 MM19 (d := 35) (s := 28) (x := 34) (Y := [nv (leV (Ps.getD i [])) lv9]) (z := .agg (#[.slice none 0 0] : Array Value)) (bb := 24) rfl rfl rfl rfl (lies_one (MM19.get 0 rfl)) (fun u hu => by rw [List.mem_singleton] at hu; rw [hu]; rfl) (by decide) Tryd.underlying45 (by kernel_rfl) rfl (by decide) (by simp only [maxLen]; omega) (by omega) rfl rfl (by decide) fun ac21 wd21 rv20 (FF21 : Fr 109 ac21 [(35, rv20), (6, .int .i64 (i : Nat)), (5, .string (bs (minB (prN ns)))), (4, .string (bs (minB ns.sum))), (3, rv), (2, .bool false), (0, .slice p Ps.length cap)]) (MM21 : MemS (fun k => k < w0.heap.size ∧ ∀ x ∈ O, x.1 ≠ k) w0 wd21 ((bq, .cells (#[nv (leV (Ps.getD i [])) lv9] : Array Value) 27) :: O12) [(rv20, 27, 1, (i + 1), ((vls ns xs) ++ [nv (leV (Ps.getD i [])) lv9]))]) => ?_
    rw [vls_app _ _ _ _ hxl] at MM21
    refine rg_part 1 FF21 MM21 [o_] [6, 5, 4, 3, 2, 0] (fun Kt => Kt [(3, rv20), (6, .int .i64 (i : Nat)), (5, .string (bs (minB (prN ns)))), (4, .string (bs (minB ns.sum))), (2, .bool false), (0, .slice p Ps.length cap)] ((bq, .cells (#[nv (leV (Ps.getD i [])) lv9] : Array Value) 27) :: O12)) (by kernel_rfl) (fun _ => by kernel_rfl) (fun ac22 wd22 FF22 MM22 => ?_)
    refine wpl_nil (then_n ?_)
    refine wp_seq (rg_seq FF22 MM22 [o_, o_, o_, f_ (.pointer (some ⟨gOf p, oOf p + i, none⟩)), f_ (.string (bs (Ps.getD i []))), t_ (.string (bs (minB (leV (Ps.getD i []))))), t_ (.string (bs (minB (ns.sum + (leV (Ps.getD i [])))))), o_] [3, 6, 5, 4, 2, 0] (fun Kt => RunV Tryd.prog [(38, .int .i64 (i : Nat)), (37, .slice p Ps.length cap), (36, .string (bs (minB ns.sum))), (3, rv20), (6, .int .i64 (i : Nat)), (5, .string (bs (minB (prN ns)))), (4, .string (bs (minB ns.sum))), (2, .bool false), (0, .slice p Ps.length cap)] ((bq, .cells (#[nv (leV (Ps.getD i [])) lv9] : Array Value) 27) :: O12) (opAt Tryd.f4 9 3) (.pointer (some ⟨gOf p, oOf p + i, none⟩)) ∧ RunV Tryd.prog [(39, .pointer (some ⟨gOf p, oOf p + i, none⟩)), (38, .int .i64 (i : Nat)), (37, .slice p Ps.length cap), (36, .string (bs (minB ns.sum))), (3, rv20), (6, .int .i64 (i : Nat)), (5, .string (bs (minB (prN ns)))), (4, .string (bs (minB ns.sum))), (2, .bool false), (0, .slice p Ps.length cap)] ((bq, .cells (#[nv (leV (Ps.getD i [])) lv9] : Array Value) 27) :: O12) (opAt Tryd.f4 9 4) (.string (bs (Ps.getD i []))) ∧ CallP Tryd.prog 10 [.string (bs (Ps.getD i []))] [] (.string (bs (minB (leV (Ps.getD i []))))) ∧ CallP Tryd.prog 22 [.string (bs (minB ns.sum)), .string (bs (minB (leV (Ps.getD i []))))] [] (.string (bs (minB (ns.sum + (leV (Ps.getD i [])))))) ∧ Kt [(4, .string (bs (minB (ns.sum + (leV (Ps.getD i [])))))), (3, rv20), (6, .int .i64 (i : Nat)), (5, .string (bs (minB (prN ns)))), (2, .bool false), (0, .slice p Ps.length cap)] ((bq, .cells (#[nv (leV (Ps.getD i [])) lv9] : Array Value) 27) :: O12)) (by kernel_rfl) (fun _ => by kernel_rfl) (⟨(strAddr_ok (t := 43) (x := .tmp 37) (y := .tmp 38) (i := i) (by kernel_rfl) rfl rfl Tryd.underlying43 (by kernel_rfl) hO_17 hlt), (strLoad_ok (t := 9) (x := .tmp 39) (i := i) (by kernel_rfl) rfl Tryd.underlying9 rfl hO_17 (fun _ hx => List.mem_cons_of_mem _ (hx)) hlt), (callP_of en_rbytes (bytes_any (Ps.getD i []) (getD_lt8 hP i) (by have := hlp i; omega)) _), (callP_of en_radd (add8_any ns.sum (leV (Ps.getD i [])) (by have := hzp i; omega)) _), fun ac23 wd23 FF23 MM23 => then_n ?_⟩))
    refine rg_seq FF23 MM23 [o_, o_, o_, f_ (.pointer (some ⟨gOf p, oOf p + i, none⟩)), f_ (.string (bs (Ps.getD i []))), t_ (.string (bs (minB (leV (Ps.getD i []))))), t_ (.string (bs (minB ((prN ns) * (leV (Ps.getD i [])))))), o_] [4, 3, 6, 5, 2, 0] (fun Kt => RunV Tryd.prog [(45, .int .i64 (i : Nat)), (44, .slice p Ps.length cap), (43, .string (bs (minB (prN ns)))), (4, .string (bs (minB (ns.sum + (leV (Ps.getD i [])))))), (3, rv20), (6, .int .i64 (i : Nat)), (5, .string (bs (minB (prN ns)))), (2, .bool false), (0, .slice p Ps.length cap)] ((bq, .cells (#[nv (leV (Ps.getD i [])) lv9] : Array Value) 27) :: O12) (opAt Tryd.f4 10 3) (.pointer (some ⟨gOf p, oOf p + i, none⟩)) ∧ RunV Tryd.prog [(46, .pointer (some ⟨gOf p, oOf p + i, none⟩)), (45, .int .i64 (i : Nat)), (44, .slice p Ps.length cap), (43, .string (bs (minB (prN ns)))), (4, .string (bs (minB (ns.sum + (leV (Ps.getD i [])))))), (3, rv20), (6, .int .i64 (i : Nat)), (5, .string (bs (minB (prN ns)))), (2, .bool false), (0, .slice p Ps.length cap)] ((bq, .cells (#[nv (leV (Ps.getD i [])) lv9] : Array Value) 27) :: O12) (opAt Tryd.f4 10 4) (.string (bs (Ps.getD i []))) ∧ CallP Tryd.prog 10 [.string (bs (Ps.getD i []))] [] (.string (bs (minB (leV (Ps.getD i []))))) ∧ CallP Tryd.prog 23 [.string (bs (minB (prN ns))), .string (bs (minB (leV (Ps.getD i []))))] [] (.string (bs (minB ((prN ns) * (leV (Ps.getD i [])))))) ∧ Kt [(5, .string (bs (minB ((prN ns) * (leV (Ps.getD i [])))))), (4, .string (bs (minB (ns.sum + (leV (Ps.getD i [])))))), (3, rv20), (6, .int .i64 (i : Nat)), (2, .bool false), (0, .slice p Ps.length cap)] ((bq, .cells (#[nv (leV (Ps.getD i [])) lv9] : Array Value) 27) :: O12)) (by kernel_rfl) (fun _ => by kernel_rfl) (⟨(strAddr_ok (t := 43) (x := .tmp 44) (y := .tmp 45) (i := i) (by kernel_rfl) rfl rfl Tryd.underlying43 (by kernel_rfl) hO_17 hlt), (strLoad_ok (t := 9) (x := .tmp 46) (i := i) (by kernel_rfl) rfl Tryd.underlying9 rfl hO_17 (fun _ hx => List.mem_cons_of_mem _ (hx)) hlt), (callP_of en_rbytes (bytes_any (Ps.getD i []) (getD_lt8 hP i) (by have := hlp i; omega)) _), (callP_of en_rmul (mul8_any (prN ns) (leV (Ps.getD i [])) (by have := hzp i; omega)) _), fun ac24 wd24 FF24 MM24 => ?_⟩)
    refine inb_n (then_n ?_)
    refine rg_seq FF24 MM24 [o_, o_, o_] [5, 4, 3, 6, 2, 0] (fun Kt => i + 1 < 9223372036854775808 ∧ Kt [(6, .int .i64 (i + 1 : Nat)), (5, .string (bs (minB ((prN ns) * (leV (Ps.getD i [])))))), (4, .string (bs (minB (ns.sum + (leV (Ps.getD i [])))))), (3, rv20), (2, .bool false), (0, .slice p Ps.length cap)] ((bq, .cells (#[nv (leV (Ps.getD i [])) lv9] : Array Value) 27) :: O12)) (by kernel_rfl) (fun _ => by kernel_rfl) (⟨(by omega), fun ac25 wd25 FF25 MM25 => ?_⟩)
    have hd := cnt_of (FF25.get 0 rfl)
    rw [← sum_snoc, ← prN_snoc] at FF25
    refine then_n ⟨⟨O12, rv20, ns ++ [leV (Ps.getD i [])], xs ++ [lv9], i + 1, by omega, hz18, by rw [hns]; exact (take_snoc Ps i hlt).symm, by rw [List.length_append, hnl]; rfl, by rw [List.length_append, List.length_append, hxl]; rfl, NatO_app hxl hNN hs15 (hN14.get 0 rfl), by rw [sum_snoc]; have := sz_add8 ns.sum (leV (Ps.getD i [])); have := hzp i; omega, by rw [prN_snoc]; have := sz_mul8 (prN ns) (leV (Ps.getD i [])); have := hzp i; omega, FF25.pick [0, 1, 2, 3, 4, 5], (MM25.dropAt 0)⟩, ?_⟩
    rw [hc, hd]; omega
  · skip
    refine then_n (.inr ⟨(FF7.ev 0 rfl).trans (dec_f hlt), ?_⟩)
    obtain rfl : i = Ps.length := by omega
    obtain ⟨q26, c27, O28, rfl, MM290, hA30, hs31⟩ := MemS.sinkRow (K := []) (O := O1) MM7 hnl hxl hNN
    have MM29 : MemS (fun k => k < w0.heap.size ∧ ∀ x ∈ O, x.1 ≠ k) w0 wd7 O28 [] := MM290
    have hT_32 := hT1.mono hs31
    have hO_33 := hO1.mono hs31
    have hz34 : ∀ x ∈ O, x ∈ O28 := fun x hx => hs31 x (hsb x hx)
    have hgl := all_get hns
    refine then_n ?_
    refine wp_seq ?_
    refine wp_seq (wp_region_list ?_)
    refine rg_part 1 FF7 MM29 [o_] [6, 5, 4, 3, 2, 0, 50] (fun Kt => Kt [(50, .slice q26 ns.length c27), (6, .int .i64 (Ps.length : Nat)), (5, .string (bs (minB (prN ns)))), (4, .string (bs (minB ns.sum))), (3, .slice q26 ns.length c27), (2, .bool false), (0, .slice p Ps.length cap)] O28) (by kernel_rfl) (fun _ => by kernel_rfl) (fun ac35 wd35 FF35 MM35 => ?_)
    refine st_callE [6, 5, 4, 3, 2, 0, 51] FF35 (d := 51) (mk := fun v => .agg #[nv (ns.sum) v]) en_nadd rfl rfl (nadd_any q26 c27 ns xs (by have := qsz_sz8 ns.sum; omega) (by omega) _ (hA30.at MM35.hasL)) rfl (by kernel_rfl) (by decide) fun ac37 wd37 lv36 (FF37 : Fr 109 ac37 [(51, .agg (#[nv ns.sum lv36] : Array Value)), (6, .int .i64 (Ps.length : Nat)), (5, .string (bs (minB (prN ns)))), (4, .string (bs (minB ns.sum))), (3, .slice q26 ns.length c27), (2, .bool false), (0, .slice p Ps.length cap)]) hr38 => ?_
    obtain ⟨O39, MM400, hN41, hs42⟩ := MemS.addNats (K := []) (O := O28) MM35 hr38.1 hr38.2 (Nats.nil O28)
    have MM40 : MemS (fun k => k < w0.heap.size ∧ ∀ x ∈ O, x.1 ≠ k) w0 wd37 O39 [] := MM400
    have hT_43 := hT_32.mono hs42
    have hO_44 := hO_33.mono hs42
    have hA_45 := hA30.mono hs42
    have hz46 : ∀ x ∈ O, x ∈ O39 := fun x hx => hs42 x (hz34 x hx)
    refine rg_part 6 FF37 MM40 [u_ 1 (.string (bs (decN ns.sum))), o_, t_ (.string (bs (decN ns.sum))), w_ 3, o_, o_] [6, 5, 4, 3, 2, 0, 56, 57] (fun Kt => CallP Tryd.prog 13 [.agg (#[nv ns.sum lv36] : Array Value)] O39 (.string (bs (decN ns.sum))) ∧ CallP Tryd.prog 14 [.string (bs (minB ns.sum))] [] (.string (bs (decN ns.sum))) ∧ ¬ (bs (decN ns.sum) ≠ bs (decN ns.sum)) ∧ Kt [(57, .slice q26 ns.length c27), (56, .bool false), (6, .int .i64 (Ps.length : Nat)), (5, .string (bs (minB (prN ns)))), (4, .string (bs (minB ns.sum))), (3, .slice q26 ns.length c27), (2, .bool false), (0, .slice p Ps.length cap)] O39) (by kernel_rfl) (fun _ => by kernel_rfl) (⟨⟨en_ntext, fun w Hw => ntext_any ns.sum lv36 (by have := qsz_sz8 ns.sum; omega) w (hT_43.at Hw) ((hN41.get 0 rfl).at Hw)⟩, (callP_of en_rtext (text8_any ns.sum (by omega)) _), (fun h => h rfl), fun ac47 wd47 FF47 MM47 => ?_⟩)
    refine st_callE [56, 6, 5, 4, 3, 2, 0, 58] FF47 (d := 58) (mk := fun v => .agg #[nv (prN ns) v]) en_nmul rfl rfl (nmul_any q26 c27 ns xs (fun j _ => by rw [← hgl j]; have := qsz_sz8 (leV (Ps.getD j [])); have := hzp j; omega) (by omega) _ (hA_45.at MM47.hasL)) rfl (by kernel_rfl) (by decide) fun ac49 wd49 lv48 (FF49 : Fr 109 ac49 [(58, .agg (#[nv (prN ns) lv48] : Array Value)), (56, .bool false), (6, .int .i64 (Ps.length : Nat)), (5, .string (bs (minB (prN ns)))), (4, .string (bs (minB ns.sum))), (3, .slice q26 ns.length c27), (2, .bool false), (0, .slice p Ps.length cap)]) hr50 => ?_
    obtain ⟨O51, MM520, hN53, hs54⟩ := MemS.addNats (K := []) (O := O39) MM47 hr50.1 hr50.2 hN41
    have MM52 : MemS (fun k => k < w0.heap.size ∧ ∀ x ∈ O, x.1 ≠ k) w0 wd49 O51 [] := MM520
    have hT_55 := hT_43.mono hs54
    have hO_56 := hO_44.mono hs54
    have hA_57 := hA_45.mono hs54
    have hz58 : ∀ x ∈ O, x ∈ O51 := fun x hx => hs54 x (hz46 x hx)
    refine rg_part 5 FF49 MM52 [u_ 1 (.string (bs (decN (prN ns)))), o_, t_ (.string (bs (decN (prN ns)))), w_ 3, o_] [6, 5, 4, 3, 2, 0, 63] (fun Kt => CallP Tryd.prog 13 [.agg (#[nv (prN ns) lv48] : Array Value)] O51 (.string (bs (decN (prN ns)))) ∧ CallP Tryd.prog 14 [.string (bs (minB (prN ns)))] [] (.string (bs (decN (prN ns)))) ∧ ¬ (bs (decN (prN ns)) ≠ bs (decN (prN ns))) ∧ Kt [(63, .bool false), (6, .int .i64 (Ps.length : Nat)), (5, .string (bs (minB (prN ns)))), (4, .string (bs (minB ns.sum))), (3, .slice q26 ns.length c27), (2, .bool false), (0, .slice p Ps.length cap)] O51) (by kernel_rfl) (fun _ => by kernel_rfl) (⟨⟨en_ntext, fun w Hw => ntext_any (prN ns) lv48 (by have := qsz_sz8 (prN ns); omega) w (hT_55.at Hw) ((hN53.get 0 rfl).at Hw)⟩, (callP_of en_rtext (text8_any (prN ns) (by omega)) _), (fun h => h rfl), fun ac59 wd59 FF59 MM59 => ?_⟩)
    refine wpl_nil (then_n ?_)
    refine wp_cond_false (FF59.ev 0 rfl) ?_
    refine wp_skip ?_
    refine then_n ?_
    refine wp_seq ?_
    refine wp_seq (rg_seq FF59 MM59 [o_] [6, 5, 4, 3, 2, 0, 7] (fun Kt => Kt [(7, .int .i64 (1 : Nat)), (6, .int .i64 (Ps.length : Nat)), (5, .string (bs (minB (prN ns)))), (4, .string (bs (minB ns.sum))), (3, .slice q26 ns.length c27), (2, .bool false), (0, .slice p Ps.length cap)] O51) (by kernel_rfl) (fun _ => by kernel_rfl) (fun ac60 wd60 FF60 MM60 => then_n ?_))
    refine wp_for2 (fun a' w' => ∃ O2 : Blks, ∃ i : Nat, 1 ≤ i ∧ i ≤ Ps.length + 1 ∧ (∀ x ∈ O, x ∈ O2) ∧ NatsO O2 q26 ns xs ∧ Fr 109 a' [(7, .int .i64 (i : Nat)), (6, .int .i64 (Ps.length : Nat)), (5, .string (bs (minB (prN ns)))), (4, .string (bs (minB ns.sum))), (3, .slice q26 ns.length c27), (0, .slice p Ps.length cap)] ∧ MemS (fun k => k < w0.heap.size ∧ ∀ x ∈ O, x.1 ≠ k) w0 w' O2 []) (fun a' _ => (Ps.length + 1 - cnt 7 a').toNat) ⟨O51, 1, Nat.le_refl _, by omega, hz58, hA_57, FF60.pick [0, 1, 2, 3, 4, 6], MM60⟩ ?_
    rintro ac61 wd61 ⟨O2, i, hi1, hi2, hsb2, hA2, FF61, MM61⟩
    have hT2 := hT.mono hsb2
    have hO2 := hO.mono hsb2
    have hc2 := cnt_of (FF61.get 0 rfl)
    refine rg_seq FF61 MM61 [o_, o_, o_, o_] [7, 6, 5, 4, 3, 0, 67] (fun Kt => Kt [(67, .bool (decide (i < Ps.length))), (7, .int .i64 (i : Nat)), (6, .int .i64 (Ps.length : Nat)), (5, .string (bs (minB (prN ns)))), (4, .string (bs (minB ns.sum))), (3, .slice q26 ns.length c27), (0, .slice p Ps.length cap)] O2) (by kernel_rfl) (fun _ => by kernel_rfl) (fun ac62 wd62 FF62 MM62 => ?_)
    by_cases hlt2 : i < Ps.length
    · skip
      refine then_n (.inl ⟨(FF62.ev 0 rfl).trans (dec_t hlt2), ?_⟩)
      refine wp_seq (rg_predL 12 70 1 (.bool (decide (ns.getD i 0 ≤ ns.getD (i - 1) 0))) FF62 MM62 [.inl (.slice q26 ns.length c27), .inl (.int .i64 (i : Nat)), .inl (.int .i64 (i - 1 : Nat)), .inl (.pointer (some ⟨gOf q26, i - 1, none⟩)), .inl (.agg (#[nv (ns.getD (i - 1) 0) (xs.getD (i - 1) undef)] : Array Value)), .inl (.slice q26 ns.length c27), .inl (.int .i64 (i : Nat)), .inl (.pointer (some ⟨gOf q26, i, none⟩)), .inl (.agg (#[nv (ns.getD i 0) (xs.getD i undef)] : Array Value)), (.inr (fun v => .tuple #[.agg #[nv (ns.getD (i - 1) 0 - ns.getD i 0) v], .bool (decide (ns.getD i 0 ≤ ns.getD (i - 1) 0))], fun v w => NatNew wd62.heap.size w (nv (ns.getD (i - 1) 0 - ns.getD i 0) v) (ns.getD (i - 1) 0 - ns.getD i 0)) : Spec), (.inr (fun v => .tuple #[.agg (#[nv (ns.getD (i - 1) 0 - ns.getD i 0) v] : Array Value), .bool (decide (ns.getD i 0 ≤ ns.getD (i - 1) 0))], fun v w => NatNew wd62.heap.size w (nv (ns.getD (i - 1) 0 - ns.getD i 0) v) (ns.getD (i - 1) 0 - ns.getD i 0)) : Spec), (.inr (fun v => .agg (#[nv (ns.getD (i - 1) 0 - ns.getD i 0) v] : Array Value), fun v w => NatNew wd62.heap.size w (nv (ns.getD (i - 1) 0 - ns.getD i 0) v) (ns.getD (i - 1) 0 - ns.getD i 0)) : Spec), .inl (.bool (decide (ns.getD i 0 ≤ ns.getD (i - 1) 0))), (.inr (fun v => .pointer (some ⟨gOf (pOf v), 0, none⟩), fun v w => CellNew wd62.heap.size w v 27) : Spec)] [some (o_), some (o_), some (o_), some (f_ (.pointer (some ⟨gOf q26, i - 1, none⟩))), some (f_ (.agg (#[nv (ns.getD (i - 1) 0) (xs.getD (i - 1) undef)] : Array Value))), some (o_), some (o_), some (f_ (.pointer (some ⟨gOf q26, i, none⟩))), some (f_ (.agg (#[nv (ns.getD i 0) (xs.getD i undef)] : Array Value))), none, some (o_), some (o_), some (o_), some (o_)] [8, 82, 81, 7, 6, 5, 4, 3, 0] (fun lx wq => [(Value.slice q26 ns.length c27 = .slice q26 ns.length c27), (Value.int .i64 (i : Nat) = .int .i64 (i : Nat)), (1 ≤ i ∧ i - 1 < 9223372036854775808 ∧ Value.int .i64 (i - 1 : Nat) = .int .i64 (i - 1 : Nat)), (RunV Tryd.prog [(71, .slice q26 ns.length c27), (73, .int .i64 (i - 1 : Nat)), (67, .bool (decide (i < Ps.length))), (7, .int .i64 (i : Nat)), (6, .int .i64 (Ps.length : Nat)), (5, .string (bs (minB (prN ns)))), (4, .string (bs (minB ns.sum))), (3, .slice q26 ns.length c27), (0, .slice p Ps.length cap)] O2 (opAt Tryd.f4 16 3) (.pointer (some ⟨gOf q26, i - 1, none⟩)) ∧ Value.pointer (some ⟨gOf q26, i - 1, none⟩) = .pointer (some ⟨gOf q26, i - 1, none⟩)), (RunV Tryd.prog [(74, .pointer (some ⟨gOf q26, i - 1, none⟩)), (67, .bool (decide (i < Ps.length))), (7, .int .i64 (i : Nat)), (6, .int .i64 (Ps.length : Nat)), (5, .string (bs (minB (prN ns)))), (4, .string (bs (minB ns.sum))), (3, .slice q26 ns.length c27), (0, .slice p Ps.length cap)] O2 (opAt Tryd.f4 16 4) (.agg (#[nv (ns.getD (i - 1) 0) (xs.getD (i - 1) undef)] : Array Value)) ∧ Value.agg (#[nv (ns.getD (i - 1) 0) (xs.getD (i - 1) undef)] : Array Value) = .agg (#[nv (ns.getD (i - 1) 0) (xs.getD (i - 1) undef)] : Array Value)), (Value.slice q26 ns.length c27 = .slice q26 ns.length c27), (Value.int .i64 (i : Nat) = .int .i64 (i : Nat)), (RunV Tryd.prog [(76, .slice q26 ns.length c27), (77, .int .i64 (i : Nat)), (67, .bool (decide (i < Ps.length))), (7, .int .i64 (i : Nat)), (6, .int .i64 (Ps.length : Nat)), (5, .string (bs (minB (prN ns)))), (4, .string (bs (minB ns.sum))), (3, .slice q26 ns.length c27), (0, .slice p Ps.length cap)] O2 (opAt Tryd.f4 16 7) (.pointer (some ⟨gOf q26, i, none⟩)) ∧ Value.pointer (some ⟨gOf q26, i, none⟩) = .pointer (some ⟨gOf q26, i, none⟩)), (RunV Tryd.prog [(78, .pointer (some ⟨gOf q26, i, none⟩)), (67, .bool (decide (i < Ps.length))), (7, .int .i64 (i : Nat)), (6, .int .i64 (Ps.length : Nat)), (5, .string (bs (minB (prN ns)))), (4, .string (bs (minB ns.sum))), (3, .slice q26 ns.length c27), (0, .slice p Ps.length cap)] O2 (opAt Tryd.f4 16 8) (.agg (#[nv (ns.getD i 0) (xs.getD i undef)] : Array Value)) ∧ Value.agg (#[nv (ns.getD i 0) (xs.getD i undef)] : Array Value) = .agg (#[nv (ns.getD i 0) (xs.getD i undef)] : Array Value)), (CallQ Tryd.prog 26 [.agg (#[nv (ns.getD (i - 1) 0) (xs.getD (i - 1) undef)] : Array Value), .agg (#[nv (ns.getD i 0) (xs.getD i undef)] : Array Value)] wq (.inr (fun v => .tuple #[.agg #[nv (ns.getD (i - 1) 0 - ns.getD i 0) v], .bool (decide (ns.getD i 0 ≤ ns.getD (i - 1) 0))], fun v w => NatNew wd62.heap.size w (nv (ns.getD (i - 1) 0 - ns.getD i 0) v) (ns.getD (i - 1) 0 - ns.getD i 0)) : Spec)), (NatNew wd62.heap.size wq (nv (ns.getD (i - 1) 0 - ns.getD i 0) (lx 9)) (ns.getD (i - 1) 0 - ns.getD i 0) → ∃ y, Value.tuple #[.agg (#[nv (ns.getD (i - 1) 0 - ns.getD i 0) (lx 9)] : Array Value), .bool (decide (ns.getD i 0 ≤ ns.getD (i - 1) 0))] = (fun v => .tuple #[.agg (#[nv (ns.getD (i - 1) 0 - ns.getD i 0) v] : Array Value), .bool (decide (ns.getD i 0 ≤ ns.getD (i - 1) 0))]) y ∧ NatNew wd62.heap.size wq (nv (ns.getD (i - 1) 0 - ns.getD i 0) y) (ns.getD (i - 1) 0 - ns.getD i 0)), (NatNew wd62.heap.size wq (nv (ns.getD (i - 1) 0 - ns.getD i 0) (lx 10)) (ns.getD (i - 1) 0 - ns.getD i 0) → ∃ y, Value.agg (#[nv (ns.getD (i - 1) 0 - ns.getD i 0) (lx 10)] : Array Value) = (fun v => .agg (#[nv (ns.getD (i - 1) 0 - ns.getD i 0) v] : Array Value)) y ∧ NatNew wd62.heap.size wq (nv (ns.getD (i - 1) 0 - ns.getD i 0) y) (ns.getD (i - 1) 0 - ns.getD i 0)), (NatNew wd62.heap.size wq (nv (ns.getD (i - 1) 0 - ns.getD i 0) (lx 10)) (ns.getD (i - 1) 0 - ns.getD i 0) → Value.bool (decide (ns.getD i 0 ≤ ns.getD (i - 1) 0)) = .bool (decide (ns.getD i 0 ≤ ns.getD (i - 1) 0))), ((∀ w', Below wq.heap.size wq w' → w'.heap[wq.heap.size]? = some (.cells (#[.slice none 0 0] : Array Value) 27) → ∃ y, Value.pointer (some ⟨wq.heap.size, 0, none⟩) = (fun v => .pointer (some ⟨gOf (pOf v), 0, none⟩)) y ∧ CellNew wd62.heap.size w' y 27))]) (fun lx => [(8, .pointer (some ⟨(gOf (pOf (lx 13))), 0, none⟩)), (82, .bool (decide (ns.getD i 0 ≤ ns.getD (i - 1) 0))), (81, .agg (#[nv (ns.getD (i - 1) 0 - ns.getD i 0) (lx 11)] : Array Value)), (7, .int .i64 (i : Nat)), (6, .int .i64 (Ps.length : Nat)), (5, .string (bs (minB (prN ns)))), (4, .string (bs (minB ns.sum))), (3, .slice q26 ns.length c27), (0, .slice p Ps.length cap)]) (by kernel_rfl) (by kernel_rfl) (by kernel_rfl) (by kernel_rfl) (by kernel_rfl) (fun _ _ _ _ _ h => h) (by kernel_rfl) rfl (j := 10) (by kernel_rfl) (by kernel_rfl) rfl (fun _ => ⟨_, rfl, rfl⟩) ⟨(fun v w w1 => natNew_st _ _ (nv _ v) w w1), (fun v w w1 => natNew_st _ _ (nv _ v) w w1), (fun v w w1 => natNew_st _ _ (nv _ v) w w1), (cell_st _ 27), trivial⟩ (fun _ _ => by kernel_rfl) (fun _ => by kernel_rfl) (fun lx wq hB9 hH9 => ⟨(rfl), (rfl), (⟨(by omega), (by omega), rfl⟩), (⟨(rowAddr_ok (x := (.tmp 71)) (y := (.tmp 73)) (by kernel_rfl) rfl rfl Tryd.underlying45 (by kernel_rfl) hA2.1 (by omega)), rfl⟩), (⟨(rowLoadA_ok (x := (.tmp 74)) (i := i - 1) (by kernel_rfl) rfl Tryd.underlying27 rfl (by kernel_rfl) hA2.1 (fun _ hx => hx) (by omega)), rfl⟩), (rfl), (rfl), (⟨(rowAddr_ok (x := (.tmp 76)) (y := (.tmp 77)) (by kernel_rfl) rfl rfl Tryd.underlying45 (by kernel_rfl) hA2.1 (by omega)), rfl⟩), (⟨(rowLoadA_ok (x := (.tmp 78)) (i := i) (by kernel_rfl) rfl Tryd.underlying27 rfl (by kernel_rfl) hA2.1 (fun _ hx => hx) (by omega)), rfl⟩), (⟨en_nsub, (nsub_any (ns.getD (i - 1) 0) (ns.getD i 0) (xs.getD (i - 1) undef) (xs.getD i undef) (by rw [← hgl]; have := qsz_sz8 (leV (Ps.getD (i - 1) [])); have := hzp (i - 1); omega) wq ((hA2.2 (i - 1) (by omega)).at hH9) ((hA2.2 i (by omega)).at hH9)).mono fun _ _ ⟨v, h1, h2, h3⟩ => ⟨v, h1, h2, h3.mono hB9.size⟩⟩), (fun h9_0 => ⟨(lx 9), rfl, h9_0⟩), (fun h10_0 => ⟨(lx 10), rfl, h10_0⟩), (fun h10_0 => rfl), (fun w' hb hh => ⟨.slice (some ⟨wq.heap.size, 0, none⟩) 0 0, rfl, hB9.size, hh⟩), trivial⟩) (fun lx ac63 wd63 hx64 hB65 FF63 MM63 => ?_))
      obtain ⟨hl9, hl10, hl11, hl13, -⟩ := hx64
      generalize lx 9 = lv66 at *
      generalize lx 10 = lv67 at *
      generalize lx 11 = lv68 at *
      generalize lx 13 = lv69 at *
      obtain ⟨O70, MM710, hN72, hs73⟩ := MemS.addCellNat (K := []) (O := O2) MM62 MM63 hl13.1 hl13.2 hl11 (Nats.nil O2)
      have MM71 : MemS (fun k => k < w0.heap.size ∧ ∀ x ∈ O, x.1 ≠ k) w0 wd63 (((gOf (pOf lv69)), .cells (#[.slice none 0 0] : Array Value) 27) :: O70) [] := MM710
      have hT_74 := hT2.mono hs73
      have hO_75 := hO2.mono hs73
      have hA_76 := hA2.mono hs73
      have hz77 : ∀ x ∈ O, x ∈ O70 := fun x hx => hs73 x (hsb2 x hx)
      generalize (gOf (pOf lv69)) = gd at *
      refine rg_part 2 FF63 MM71 [b_ 0, o_] [7, 6, 5, 4, 3, 0, 8, 9] (fun Kt => gd = gd ∧ (#[.slice none 0 0] : Array Value).size = 1 ∧ (#[nv (ns.getD (i - 1) 0 - ns.getD i 0) lv68] : Array Value).size = 1 ∧ (#[nv (ns.getD (i - 1) 0 - ns.getD i 0) lv68] : Array Value).all (·.oneCell') = true ∧ (0, 0).2 = 0 ∧ Kt [(9, .bool (decide (ns.getD i 0 ≤ ns.getD (i - 1) 0))), (8, .pointer (some ⟨gd, 0, none⟩)), (7, .int .i64 (i : Nat)), (6, .int .i64 (Ps.length : Nat)), (5, .string (bs (minB (prN ns)))), (4, .string (bs (minB ns.sum))), (3, .slice q26 ns.length c27), (0, .slice p Ps.length cap)] ((gd, .cells (#[nv (ns.getD (i - 1) 0 - ns.getD i 0) lv68] : Array Value) 27) :: O70)) (by kernel_rfl) (fun _ => by kernel_rfl) (⟨rfl, rfl, rfl, (by kernel_rfl), rfl, fun ac78 wd78 FF78 MM78 => ?_⟩)
      refine wpl_nil (then_n ?_)
      refine wp_seq (rg_predL 14 83 1 (.bool (decide (ns.getD i 0 ≤ ns.getD (i - 1) 0))) FF78 MM78 [.inl (.slice p Ps.length cap), .inl (.int .i64 (i : Nat)), .inl (.int .i64 (i - 1 : Nat)), .inl (.pointer (some ⟨gOf p, oOf p + (i - 1), none⟩)), .inl (.string (bs (Ps.getD (i - 1) []))), .inl (.string (bs (minB (ns.getD (i - 1) 0)))), .inl (.slice p Ps.length cap), .inl (.int .i64 (i : Nat)), .inl (.pointer (some ⟨gOf p, oOf p + i, none⟩)), .inl (.string (bs (Ps.getD i []))), .inl (.string (bs (minB (ns.getD i 0)))), (.inr (fun _ => .tuple #[.string (bs (minB (ns.getD (i - 1) 0 - ns.getD i 0))), .bool (decide (ns.getD i 0 ≤ ns.getD (i - 1) 0))], fun v w => True) : Spec), (.inr (fun _ => .tuple #[.string (bs (minB (ns.getD (i - 1) 0 - ns.getD i 0))), .bool (decide (ns.getD i 0 ≤ ns.getD (i - 1) 0))], fun v w => True) : Spec), .inl (.string (bs (minB (ns.getD (i - 1) 0 - ns.getD i 0)))), .inl (.bool (decide (ns.getD i 0 ≤ ns.getD (i - 1) 0)))] [some (o_), some (o_), some (o_), some (f_ (.pointer (some ⟨gOf p, oOf p + (i - 1), none⟩))), some (f_ (.string (bs (Ps.getD (i - 1) [])))), some (t_ (.string (bs (minB (ns.getD (i - 1) 0))))), some (o_), some (o_), some (f_ (.pointer (some ⟨gOf p, oOf p + i, none⟩))), some (f_ (.string (bs (Ps.getD i [])))), some (t_ (.string (bs (minB (ns.getD i 0))))), none, some (o_), some (o_), some (o_)] [97, 96, 9, 8, 7, 6, 5, 4, 3, 0] (fun lx wq => [(Value.slice p Ps.length cap = .slice p Ps.length cap), (Value.int .i64 (i : Nat) = .int .i64 (i : Nat)), (1 ≤ i ∧ i - 1 < 9223372036854775808 ∧ Value.int .i64 (i - 1 : Nat) = .int .i64 (i - 1 : Nat)), (RunV Tryd.prog [(84, .slice p Ps.length cap), (86, .int .i64 (i - 1 : Nat)), (9, .bool (decide (ns.getD i 0 ≤ ns.getD (i - 1) 0))), (8, .pointer (some ⟨gd, 0, none⟩)), (7, .int .i64 (i : Nat)), (6, .int .i64 (Ps.length : Nat)), (5, .string (bs (minB (prN ns)))), (4, .string (bs (minB ns.sum))), (3, .slice q26 ns.length c27), (0, .slice p Ps.length cap)] ((gd, .cells (#[nv (ns.getD (i - 1) 0 - ns.getD i 0) lv68] : Array Value) 27) :: O70) (opAt Tryd.f4 17 3) (.pointer (some ⟨gOf p, oOf p + (i - 1), none⟩)) ∧ Value.pointer (some ⟨gOf p, oOf p + (i - 1), none⟩) = .pointer (some ⟨gOf p, oOf p + (i - 1), none⟩)), (RunV Tryd.prog [(87, .pointer (some ⟨gOf p, oOf p + (i - 1), none⟩)), (9, .bool (decide (ns.getD i 0 ≤ ns.getD (i - 1) 0))), (8, .pointer (some ⟨gd, 0, none⟩)), (7, .int .i64 (i : Nat)), (6, .int .i64 (Ps.length : Nat)), (5, .string (bs (minB (prN ns)))), (4, .string (bs (minB ns.sum))), (3, .slice q26 ns.length c27), (0, .slice p Ps.length cap)] ((gd, .cells (#[nv (ns.getD (i - 1) 0 - ns.getD i 0) lv68] : Array Value) 27) :: O70) (opAt Tryd.f4 17 4) (.string (bs (Ps.getD (i - 1) []))) ∧ Value.string (bs (Ps.getD (i - 1) [])) = .string (bs (Ps.getD (i - 1) []))), (CallP Tryd.prog 10 [.string (bs (Ps.getD (i - 1) []))] [] (.string (bs (minB (ns.getD (i - 1) 0)))) ∧ Value.string (bs (minB (ns.getD (i - 1) 0))) = .string (bs (minB (ns.getD (i - 1) 0)))), (Value.slice p Ps.length cap = .slice p Ps.length cap), (Value.int .i64 (i : Nat) = .int .i64 (i : Nat)), (RunV Tryd.prog [(90, .slice p Ps.length cap), (91, .int .i64 (i : Nat)), (9, .bool (decide (ns.getD i 0 ≤ ns.getD (i - 1) 0))), (8, .pointer (some ⟨gd, 0, none⟩)), (7, .int .i64 (i : Nat)), (6, .int .i64 (Ps.length : Nat)), (5, .string (bs (minB (prN ns)))), (4, .string (bs (minB ns.sum))), (3, .slice q26 ns.length c27), (0, .slice p Ps.length cap)] ((gd, .cells (#[nv (ns.getD (i - 1) 0 - ns.getD i 0) lv68] : Array Value) 27) :: O70) (opAt Tryd.f4 17 8) (.pointer (some ⟨gOf p, oOf p + i, none⟩)) ∧ Value.pointer (some ⟨gOf p, oOf p + i, none⟩) = .pointer (some ⟨gOf p, oOf p + i, none⟩)), (RunV Tryd.prog [(92, .pointer (some ⟨gOf p, oOf p + i, none⟩)), (9, .bool (decide (ns.getD i 0 ≤ ns.getD (i - 1) 0))), (8, .pointer (some ⟨gd, 0, none⟩)), (7, .int .i64 (i : Nat)), (6, .int .i64 (Ps.length : Nat)), (5, .string (bs (minB (prN ns)))), (4, .string (bs (minB ns.sum))), (3, .slice q26 ns.length c27), (0, .slice p Ps.length cap)] ((gd, .cells (#[nv (ns.getD (i - 1) 0 - ns.getD i 0) lv68] : Array Value) 27) :: O70) (opAt Tryd.f4 17 9) (.string (bs (Ps.getD i []))) ∧ Value.string (bs (Ps.getD i [])) = .string (bs (Ps.getD i []))), (CallP Tryd.prog 10 [.string (bs (Ps.getD i []))] [] (.string (bs (minB (ns.getD i 0)))) ∧ Value.string (bs (minB (ns.getD i 0))) = .string (bs (minB (ns.getD i 0)))), (CallQ Tryd.prog 27 [.string (bs (minB (ns.getD (i - 1) 0))), .string (bs (minB (ns.getD i 0)))] wq (.inr (fun _ => .tuple #[.string (bs (minB (ns.getD (i - 1) 0 - ns.getD i 0))), .bool (decide (ns.getD i 0 ≤ ns.getD (i - 1) 0))], fun v w => True) : Spec)), (True → ∃ y, Value.tuple #[.string (bs (minB (ns.getD (i - 1) 0 - ns.getD i 0))), .bool (decide (ns.getD i 0 ≤ ns.getD (i - 1) 0))] = (fun _ => .tuple #[.string (bs (minB (ns.getD (i - 1) 0 - ns.getD i 0))), .bool (decide (ns.getD i 0 ≤ ns.getD (i - 1) 0))]) y ∧ True), (True → Value.string (bs (minB (ns.getD (i - 1) 0 - ns.getD i 0))) = .string (bs (minB (ns.getD (i - 1) 0 - ns.getD i 0)))), (True → Value.bool (decide (ns.getD i 0 ≤ ns.getD (i - 1) 0)) = .bool (decide (ns.getD i 0 ≤ ns.getD (i - 1) 0)))]) (fun lx => [(97, .bool (decide (ns.getD i 0 ≤ ns.getD (i - 1) 0))), (96, .string (bs (minB (ns.getD (i - 1) 0 - ns.getD i 0)))), (9, .bool (decide (ns.getD i 0 ≤ ns.getD (i - 1) 0))), (8, .pointer (some ⟨gd, 0, none⟩)), (7, .int .i64 (i : Nat)), (6, .int .i64 (Ps.length : Nat)), (5, .string (bs (minB (prN ns)))), (4, .string (bs (minB ns.sum))), (3, .slice q26 ns.length c27), (0, .slice p Ps.length cap)]) (by kernel_rfl) (by kernel_rfl) (by kernel_rfl) (by kernel_rfl) (by kernel_rfl) (fun _ _ _ _ _ h => h) (by kernel_rfl) rfl (j := 12) (by kernel_rfl) (by kernel_rfl) rfl (fun _ => ⟨_, rfl, rfl⟩) ⟨(fun _ _ _ _ _ => trivial), (fun _ _ _ _ _ => trivial), trivial⟩ (fun _ _ => by kernel_rfl) (fun _ => by kernel_rfl) (fun lx wq hB9 hH9 => ⟨(rfl), (rfl), (⟨(by omega), (by omega), rfl⟩), (⟨(strAddr_ok (t := 43) (x := .tmp 84) (y := .tmp 86) (i := i - 1) (by kernel_rfl) rfl rfl Tryd.underlying43 (by kernel_rfl) hO_75 (by omega)), rfl⟩), (⟨(strLoad_ok (t := 9) (x := .tmp 87) (i := i - 1) (by kernel_rfl) rfl Tryd.underlying9 rfl hO_75 (fun _ hx => List.mem_cons_of_mem _ (hx)) (by omega)), rfl⟩), (⟨(by have h0 := callP_of en_rbytes (bytes_any (Ps.getD (i - 1) []) (getD_lt8 hP (i - 1)) (by have := hlp (i - 1); omega)) []; rw [hgl] at h0; exact h0), rfl⟩), (rfl), (rfl), (⟨(strAddr_ok (t := 43) (x := .tmp 90) (y := .tmp 91) (i := i) (by kernel_rfl) rfl rfl Tryd.underlying43 (by kernel_rfl) hO_75 hlt2), rfl⟩), (⟨(strLoad_ok (t := 9) (x := .tmp 92) (i := i) (by kernel_rfl) rfl Tryd.underlying9 rfl hO_75 (fun _ hx => List.mem_cons_of_mem _ (hx)) hlt2), rfl⟩), (⟨(by have h0 := callP_of en_rbytes (bytes_any (Ps.getD i []) (getD_lt8 hP i) (by have := hlp i; omega)) []; rw [hgl] at h0; exact h0), rfl⟩), (⟨en_rsub, (sub8_any (ns.getD (i - 1) 0) (ns.getD i 0) (by rw [← hgl, ← hgl]; have := hzp i; have := hzp (i - 1); omega) wq).mono fun _ _ ⟨h1, h2⟩ => ⟨undef, h1.trans (by rw [subN_eq]; rfl), h2, trivial⟩⟩), (fun h11_0 => ⟨undef, rfl, trivial⟩), (fun h12_0 => rfl), (fun h12_0 => rfl), trivial⟩) (fun lx ac79 wd79 hx80 hB81 FF79 MM79 => ?_))
      obtain ⟨hl11, hl12, -⟩ := hx80
      generalize lx 11 = lv82 at *
      generalize lx 12 = lv83 at *
      refine rg_part 2 FF79 MM79 [o_, o_] [9, 8, 7, 6, 5, 4, 3, 0, 10, 11] (fun Kt => Kt [(11, .bool (decide (ns.getD i 0 ≤ ns.getD (i - 1) 0))), (10, .string (bs (minB (ns.getD (i - 1) 0 - ns.getD i 0)))), (9, .bool (decide (ns.getD i 0 ≤ ns.getD (i - 1) 0))), (8, .pointer (some ⟨gd, 0, none⟩)), (7, .int .i64 (i : Nat)), (6, .int .i64 (Ps.length : Nat)), (5, .string (bs (minB (prN ns)))), (4, .string (bs (minB ns.sum))), (3, .slice q26 ns.length c27), (0, .slice p Ps.length cap)] ((gd, .cells (#[nv (ns.getD (i - 1) 0 - ns.getD i 0) lv68] : Array Value) 27) :: O70)) (by kernel_rfl) (fun _ => by kernel_rfl) (fun ac84 wd84 FF84 MM84 => ?_)
      refine wpl_nil (then_n ?_)
      refine wp_seq (rg_seq FF84 MM84 [o_, o_, f_ (.bool false), o_, b_ 0, u_ 1 (.string (bs (decN (ns.getD (i - 1) 0 - ns.getD i 0)))), o_, t_ (.string (bs (decN (ns.getD (i - 1) 0 - ns.getD i 0)))), w_ 3, o_] [11, 10, 9, 8, 7, 6, 5, 4, 3, 0, 107] (fun Kt => RunV Tryd.prog [(99, .bool (decide (ns.getD i 0 ≤ ns.getD (i - 1) 0))), (98, .bool (decide (ns.getD i 0 ≤ ns.getD (i - 1) 0))), (11, .bool (decide (ns.getD i 0 ≤ ns.getD (i - 1) 0))), (10, .string (bs (minB (ns.getD (i - 1) 0 - ns.getD i 0)))), (9, .bool (decide (ns.getD i 0 ≤ ns.getD (i - 1) 0))), (8, .pointer (some ⟨gd, 0, none⟩)), (7, .int .i64 (i : Nat)), (6, .int .i64 (Ps.length : Nat)), (5, .string (bs (minB (prN ns)))), (4, .string (bs (minB ns.sum))), (3, .slice q26 ns.length c27), (0, .slice p Ps.length cap)] ((gd, .cells (#[nv (ns.getD (i - 1) 0 - ns.getD i 0) lv68] : Array Value) 27) :: O70) (opAt Tryd.f4 18 2) (.bool false) ∧ gd = gd ∧ (#[nv (ns.getD (i - 1) 0 - ns.getD i 0) lv68] : Array Value).size = 1 ∧ CallP Tryd.prog 13 [.agg (#[nv (ns.getD (i - 1) 0 - ns.getD i 0) lv68] : Array Value)] ((gd, .cells (#[nv (ns.getD (i - 1) 0 - ns.getD i 0) lv68] : Array Value) 27) :: O70) (.string (bs (decN (ns.getD (i - 1) 0 - ns.getD i 0)))) ∧ CallP Tryd.prog 14 [.string (bs (minB (ns.getD (i - 1) 0 - ns.getD i 0)))] [] (.string (bs (decN (ns.getD (i - 1) 0 - ns.getD i 0)))) ∧ ¬ (bs (decN (ns.getD (i - 1) 0 - ns.getD i 0)) ≠ bs (decN (ns.getD (i - 1) 0 - ns.getD i 0))) ∧ Kt [(107, .bool false), (11, .bool (decide (ns.getD i 0 ≤ ns.getD (i - 1) 0))), (10, .string (bs (minB (ns.getD (i - 1) 0 - ns.getD i 0)))), (9, .bool (decide (ns.getD i 0 ≤ ns.getD (i - 1) 0))), (8, .pointer (some ⟨gd, 0, none⟩)), (7, .int .i64 (i : Nat)), (6, .int .i64 (Ps.length : Nat)), (5, .string (bs (minB (prN ns)))), (4, .string (bs (minB ns.sum))), (3, .slice q26 ns.length c27), (0, .slice p Ps.length cap)] ((gd, .cells (#[nv (ns.getD (i - 1) 0 - ns.getD i 0) lv68] : Array Value) 27) :: O70)) (by kernel_rfl) (fun _ => by kernel_rfl) (⟨(neqB_same (neqB_ok (t := 4) (t' := 4) (x := (.tmp 98)) (y := (.tmp 99)) (p := decide (ns.getD i 0 ≤ ns.getD (i - 1) 0)) (q := decide (ns.getD i 0 ≤ ns.getD (i - 1) 0)) (by kernel_rfl) Tryd.underlying4 rfl rfl)), rfl, rfl, ⟨en_ntext, fun w Hw => ntext_any (ns.getD (i - 1) 0 - ns.getD i 0) lv68 (by have h1 := qsz_sz8 (ns.getD (i - 1) 0 - ns.getD i 0); have h2 := sz_mono (Nat.sub_le (ns.getD (i - 1) 0) (ns.getD i 0)); have h3 : sz (ns.getD (i - 1) 0) ≤ 200 := (by rw [← hgl]; exact hzp (i - 1)); omega) w (hT_74.at (Has.tl Hw)) ((hN72.get 0 rfl).at (Has.tl Hw))⟩, (callP_of en_rtext (text8_any (ns.getD (i - 1) 0 - ns.getD i 0) (by have h2 := sz_mono (Nat.sub_le (ns.getD (i - 1) 0) (ns.getD i 0)); have h3 : sz (ns.getD (i - 1) 0) ≤ 200 := (by rw [← hgl]; exact hzp (i - 1)); omega)) _), (fun h => h rfl), fun ac85 wd85 FF85 MM85 => then_n ?_⟩))
      refine wp_cond_false (FF85.ev 0 rfl) ?_
      refine wp_skip ?_
      refine inb_n (then_n ?_)
      refine rg_seq FF85 MM85 [o_, o_, o_] [11, 10, 9, 8, 7, 6, 5, 4, 3, 0] (fun Kt => i + 1 < 9223372036854775808 ∧ Kt [(7, .int .i64 (i + 1 : Nat)), (11, .bool (decide (ns.getD i 0 ≤ ns.getD (i - 1) 0))), (10, .string (bs (minB (ns.getD (i - 1) 0 - ns.getD i 0)))), (9, .bool (decide (ns.getD i 0 ≤ ns.getD (i - 1) 0))), (8, .pointer (some ⟨gd, 0, none⟩)), (6, .int .i64 (Ps.length : Nat)), (5, .string (bs (minB (prN ns)))), (4, .string (bs (minB ns.sum))), (3, .slice q26 ns.length c27), (0, .slice p Ps.length cap)] ((gd, .cells (#[nv (ns.getD (i - 1) 0 - ns.getD i 0) lv68] : Array Value) 27) :: O70)) (by kernel_rfl) (fun _ => by kernel_rfl) (⟨(by omega), fun ac86 wd86 FF86 MM86 => ?_⟩)
      have hd2 := cnt_of (FF86.get 0 rfl)
      refine then_n ⟨⟨O70, i + 1, by omega, by omega, hz77, hA_76, FF86.pick [0, 5, 6, 7, 8, 9], (MM86.dropAt 0)⟩, ?_⟩
      rw [hc2, hd2]; omega
    · skip
      refine then_n (.inr ⟨(FF62.ev 0 rfl).trans (dec_f hlt2), ?_⟩)
      refine then_n ?_
      refine wp_seq (rg_seq FF62 MM62 [u_ 1 (.bool true), o_] [7, 6, 5, 4, 3, 0, 2] (fun Kt => CallP Tryd.prog 8 [] O2 (.bool true) ∧ Kt [(2, .bool true), (7, .int .i64 (i : Nat)), (6, .int .i64 (Ps.length : Nat)), (5, .string (bs (minB (prN ns)))), (4, .string (bs (minB ns.sum))), (3, .slice q26 ns.length c27), (0, .slice p Ps.length cap)] O2) (by kernel_rfl) (fun _ => by kernel_rfl) (⟨⟨en_wakes, fun w Hw => wakes_w w (hT2.at Hw)⟩, fun ac87 wd87 FF87 MM87 => then_n ?_⟩))
      refine wp_ret ?_
      repeat first | refine then_ret ?_ | refine inb_ret ?_
      exact (ret_fr FF87 0 Tryd.results4 rfl ⟨rfl, MM87.belowN H (fun _ hx => hsb2 _ hx)⟩)

end Go.Proofs.YtcannnmpemnklaaDoor
namespace Go.Proofs.YtcannnmpemnklaaDoor
open Go.RowKit

def pw10 : List Nat := [1, 10, 100, 1000, 10000, 100000, 1000000, 10000000, 100000000, 1000000000, 10000000000, 100000000000, 1000000000000, 10000000000000, 100000000000000, 1000000000000000, 10000000000000000, 100000000000000000, 1000000000000000000, 10000000000000000000]
theorem pw10_at : ∀ i : Fin 20, pw10[i.val]? = some (10 ^ i.val) := by decide +kernel
theorem tab_in {w : World} {T : TypeId} {fr : Nat × Nat} (h : w.heap[2]? = some (.cells (cn .u64 pw10) T fr)) : TabIn w := .inr ⟨2, _, T, fr, rfl, h, fun j hj => by
  have := pw10_at ⟨j, hj⟩
  simp [cn, this]⟩

end Go.Proofs.YtcannnmpemnklaaDoor
namespace Go.Proofs.YtcannnmpemnklaaDoor
open Go.ChangeShapes Go.WideShapes Go.ChangeAt Go.RowKit

theorem Tryd.own : ownKnob Tryd.prog.godebug = Option.none := by kernel_rfl
theorem Tryd.laidOut : laidOutB Tryd.prog = true := by kernel_rfl

section
variable {H : Type} {enc : TypeId × Value → H} {P : Program}

theorem trodAll_below (hl : laidOutB P = true) {W W' : World} (hb : Below W.heap.size W W') : ∀ (ts : List TypeId) (vs : List Value) (ds : List (DataW H)) (ps : List MemPlace), (∀ t ∈ ts, P.readableRec t = true ∧ t < P.types.size) →
    DataW.TrodAll enc P W 0 (fun _ => true) true ts vs ds ps → (∀ x ∈ ps, x.block < W.heap.size) → DataW.TrodAll enc P W' 0 (fun b => decide (b < W.heap.size)) true ts vs ds ps
  | [], [], [], _, _, h, _ => h
  | t :: ts, v :: vs, d :: ds, ps, hr, ⟨p, q, h1, h2, e⟩, hlt => by
    subst e
    obtain ⟨r1, r2⟩ := hr t (by simp)
    exact ⟨p, q, Below.trod hl r1 r2 h1 hb (fun x hx => hlt x (by simp [hx])), trodAll_below hl hb ts vs ds q (fun t ht => hr t (by simp [ht])) h2 (fun x hx => hlt x (by simp [hx])), rfl⟩
  | [], [], _ :: _, _, _, h, _ => h.elim
  | [], _ :: _, _, _, _, h, _ => by cases h
  | _ :: _, [], _, _, _, h, _ => by cases h
  | _ :: _, _ :: _, [], _, _, h, _ => h.elim

/-- What is asked behind a law's walk. -/
theorem post_true {f : Func} {s : ChangeSpec} {W W' : World} {args : Array Value} {ds : List (DataW H)} {before : List MemPlace} {T : TypeId} (hl : laidOutB P = true) (hr : ∀ t ∈ f.params.toList, P.readableRec t = true ∧ t < P.types.size) (hv : s.vars = [])
    (hW : DataW.Whole enc P f.params.toList s.vars false W args.toList ds [] before) (hres : (s.fn H (ds ++ [])).results = [.lit (.bool true)]) (hargs : (s.fn H (ds ++ [])).args = ds) (hvs : (s.fn H (ds ++ [])).vars = [])
    (hT : f.resultTypes = #[T]) (hu : P.underlying T = some .bool) (hb : Below W.heap.size W W') : s.post enc P f false true false false W args (.bool true) W' := by
  have hlt := hW.lt
  have hW' := hW
  obtain ⟨p, q, hA, hV, rfl, _, _⟩ := hW'
  refine ⟨ds, [], p ++ q, [], p, [], hW, ?_, ?_, ?_, hb.frame _, fun h => by cases h⟩
  · rw [hres, hT]
    exact trodAll_cons_mk (shut_bool hu _) rfl
  · rw [hargs]
    exact trodAll_below hl hb _ _ _ _ hr hA (fun x hx => hlt x (by simp [hx]))
  · rw [hvs, hv]
    exact rfl

theorem okWide_arr {w : World} {r : Reach} {base : Nat} {t : TypeId} {v : Value} {n : Nat} {e : TypeId} (ht : P.underlying t = some (.array n e)) (h : Value.okWide P w r base t v) : ∃ cs, v = .agg cs ∧ cs.size = P.cellsOf t := by
  simp only [Value.okWide, ht] at h
  obtain ⟨cs, h1, h2, _⟩ := h
  exact ⟨cs, h1, h2⟩
end

section
variable {H : Type} {enc : TypeId × Value → H} {P : Program}
/-- Bytes that come in within something greater. -/
theorem bytes_in {W : World} {base' : Nat} {spare : Nat → Bool} {held : Bool} {fuel n : Nat} {t e : TypeId} {L : List Value} {x : DataW H × List MemPlace} (hu : P.underlying t = some (.array n e)) (he : P.underlying e = some (.int .u8)) (hc : P.cellsOf e = 1) (hf : DataW.trod enc P W base' spare held fuel t L = some x) :
    ∃ ks : List Nat, Bytes n ks ∧ ∀ (j : Nat) (v : Value), (cn .u8 ks)[j]? = some v → L[j]? = some v := by
  obtain ⟨xs, m, _, _, _, hl, hel⟩ := DataW.trod_array hu hf
  rw [hc] at hel
  have key : ∀ i, i < n → ∃ k : Nat, L[i]? = some (.int .u8 (k : Int)) ∧ k < 256 := fun i hi => by
    have h1 := hel i hi
    have h2 : xs[i]? = some (xs[i]'(by omega)) := by simp
    rw [h2] at h1
    obtain ⟨k, e, _, wf⟩ := DataW.trod_int he h1
    obtain ⟨b0, b1⟩ := bounds_u8 wf
    obtain ⟨k, rfl⟩ := Int.eq_ofNat_of_zero_le b0
    refine ⟨k, ?_, by omega⟩
    rw [Nat.mul_one] at e
    have h3 := congrArg (fun l => l[0]?) e
    simpa using h3
  have hk : ∃ f : Nat → Nat, ∀ i, i < n → L[i]? = some (.int .u8 (f i : Int)) ∧ f i < 256 :=
    ⟨fun i => if h : i < n then (key i h).choose else 0, fun i hi => by simp only [hi, dif_pos]; exact (key i hi).choose_spec⟩
  obtain ⟨f, hf⟩ := hk
  refine ⟨(List.range n).map f, ⟨by simp, fun i => ?_⟩, fun j v hv => ?_⟩
  · rcases Nat.lt_or_ge i n with h | h
    · simp [h]; exact (hf i h).2
    · simp [h]
  · rcases Nat.lt_or_ge j n with h | h
    · rw [(hf j h).1, ← hv, cn_get _ _ _ (by simpa using h)]; simp [h]
    · rw [Array.getElem?_eq_none (by rw [cn_size]; simpa using h)] at hv; cases hv
theorem part_in {ks : List Nat} {cs : Array Value} {k off : Nat} (h : ∀ (j : Nat) (v : Value), (cn .u8 ks)[j]? = some v → (List.take k (List.drop off (Value.agg cs).cells.toList))[j]? = some v) : ∀ (j : Nat) (v : Value), (cn .u8 ks)[j]? = some v → cs[off + j]? = some v := fun j v hv => by
  have := h j v hv
  rw [List.getElem?_take] at this
  split at this
  · simpa [Value.cells] using this
  · cases this
/-- An array of bytes that comes in alone. -/
theorem open_bytes {W : World} {r : Reach} {base base' : Nat} {spare : Nat → Bool} {held : Bool} {v : Value} {d : DataW H} {p : List MemPlace} {t e : TypeId} {n : Nat} (hu : P.underlying t = some (.array n e)) (he : P.underlying e = some (.int .u8)) (hc : P.cellsOf e = 1) (ht : P.cellsOf t = n)
    (hv : Value.okWide P W r base t v) (h : DataW.Trod enc P W base' spare held t v d p) : ∃ ks : List Nat, Bytes n ks ∧ v = .agg (cn .u8 ks) := by
  obtain ⟨cs, rfl, hsz⟩ := okWide_arr hu hv
  rw [ht] at hsz
  obtain ⟨fuel, hf⟩ := h
  obtain ⟨ks, bk, pk⟩ := bytes_in hu he hc hf
  refine ⟨ks, bk, ?_⟩
  congr 1
  refine Array.ext_getElem? fun i => ?_
  rcases Nat.lt_or_ge i n with hi | hi
  · have h1 := cn_get .u8 ks i (by rw [bk.len]; exact hi)
    have h2 := pk i _ h1
    rw [h1]
    simpa [Value.cells] using h2
  · rw [Array.getElem?_eq_none (by omega), Array.getElem?_eq_none (by rw [cn_size, bk.len]; exact hi)]
/-- An array of strings that comes in alone. -/
theorem open_strs {W : World} {r : Reach} {base base' : Nat} {spare : Nat → Bool} {held : Bool} {v : Value} {d : DataW H} {p : List MemPlace} {t e : TypeId} {n : Nat} (hu : P.underlying t = some (.array n e)) (he : P.underlying e = some .string) (hc : P.cellsOf e = 1) (ht : P.cellsOf t = n)
    (hv : Value.okWide P W r base t v) (h : DataW.Trod enc P W base' spare held t v d p) : ∃ Ts : List (List Nat), Ts.length = n ∧ (∀ X ∈ Ts, (∀ i, X.getD i 0 < 256) ∧ X.length ≤ maxLen) ∧ v = .agg (Ts.map fun X => Value.string (bs X)).toArray := by
  obtain ⟨cs, rfl, hsz⟩ := okWide_arr hu hv
  rw [ht] at hsz
  obtain ⟨fuel, hf⟩ := h
  obtain ⟨xs, m, _, _, _, hl, hel⟩ := DataW.trod_array hu hf
  rw [hc] at hel
  have key : ∀ i, i < n → ∃ s : ByteArray, cs[i]? = some (.string s) ∧ s.size ≤ maxLen := fun i hi => by
    have h1 := hel i hi
    have h2 : xs[i]? = some (xs[i]'(by omega)) := by simp
    rw [h2] at h1
    obtain ⟨s, e, _, hm⟩ := DataW.trod_string he h1
    refine ⟨s, ?_, hm⟩
    rw [Nat.mul_one] at e
    have h3 := congrArg (fun l => l[0]?) e
    simpa [Value.cells] using h3
  have hk : ∃ f : Nat → ByteArray, ∀ i, i < n → cs[i]? = some (.string (f i)) ∧ (f i).size ≤ maxLen :=
    ⟨fun i => if h : i < n then (key i h).choose else ByteArray.empty, fun i hi => by simp only [hi, dif_pos]; exact (key i hi).choose_spec⟩
  obtain ⟨f, hf⟩ := hk
  refine ⟨(List.range n).map fun i => nl (f i), by simp, fun X hX => ?_, ?_⟩
  · obtain ⟨i, hi, rfl⟩ := List.mem_map.1 hX
    exact ⟨nl_lt _, by rw [nl_len]; exact (hf i (by simpa using hi)).2⟩
  · congr 1
    refine Array.ext_getElem? fun i => ?_
    rcases Nat.lt_or_ge i n with hi | hi
    · rw [(hf i hi).1]; simp [hi, bs_nl]
    · rw [Array.getElem?_eq_none (by omega), Array.getElem?_eq_none (by simp; omega)]
end
end Go.Proofs.YtcannnmpemnklaaDoor
namespace Go.Proofs.YtcannnmpemnklaaDoor
open Go.ChangeShapes Go.WideShapes Go.ChangeAt Go.RowKit
section
variable {P : Program} {H : Type} {enc : TypeId × Value → H} {W : World} {r : Reach} {base base' : Nat} {spare : Nat → Bool} {held : Bool}
theorem strs_cells {t e : TypeId} {fuel : Nat} {cs0 : List Value} {x : DataW H × List MemPlace} (ht : P.underlying t = some (.slice e)) (he : P.underlying e = some .string) (hc : P.cellsOf e = 1) (hf : DataW.trod enc P W base' spare held fuel t cs0 = some x) :
    ∃ (q : Option Addr) (Ps : List (List Nat)) (c : Nat), cs0 = [.slice q Ps.length c] ∧ (∀ X ∈ Ps, ∀ i, X.getD i 0 < 256) ∧ StrsIn W q Ps ∧ Ps.length ≤ maxLen := by
  rcases Go.ChangeShapes.open_strings ht he hc hf with ⟨e, _⟩ | ⟨a, n, cap, ss, e, hb, hl, hm, hss, hx, hcell, hmax⟩
  · exact ⟨none, [], 0, e, fun X hX => (nomatch hX), .inl rfl, Nat.zero_le _⟩
  · rcases Nat.eq_zero_or_pos n with rfl | hn
    · exact ⟨some a, [], cap, e, fun X hX => (nomatch hX), .inl rfl, Nat.zero_le _⟩
    · have hle : n ≤ ss.length := by rw [hss]; split <;> omega
      have h0 := hcell 0 (by omega)
      rw [show a.add 0 = a from rfl] at h0
      have hsp : a.spot = none ∧ ∃ cs T9 fr, W.heap[a.block]? = some (.cells cs T9 fr) := by
        unfold World.cell? at h0
        split at h0
        · rename_i cs T9 fr hblk
          split at h0
          · cases h0
          · rename_i hs
            exact ⟨by cases hq : a.spot with | none => rfl | some x => (rw [hq] at hs; simp at hs), cs, T9, fr, hblk⟩
        · cases h0
      obtain ⟨hs, cs, T9, fr, hblk⟩ := hsp
      obtain ⟨ab, ao, asp⟩ := a
      simp only at hs hblk
      subst hs
      have hlen : ((ss.take n).map nl).length = n := by simp; omega
      refine ⟨some ⟨ab, ao, none⟩, (ss.take n).map nl, cap, by rw [e, hlen], fun X hX => ?_, .inr ⟨ab, ao, cs, T9, fr, rfl, hblk, fun j hj => ?_⟩, by omega⟩
      · obtain ⟨s, _, rfl⟩ := List.mem_map.1 hX
        exact nl_lt s
      · rw [hlen] at hj
        have := hcell j (by omega)
        rw [add_off, cell_of hblk] at this
        rw [this]
        congr 1
        rw [List.getD_eq_getElem?_getD, List.getD_eq_getElem?_getD, List.getElem?_map, List.getElem?_take, if_pos hj, List.getElem?_eq_getElem (show j < ss.length by omega)]
        simp [bs_nl]
theorem strs_param {t e : TypeId} {v : Value} {d : DataW H} {p : List MemPlace} (ht : P.underlying t = some (.slice e)) (he : P.underlying e = some .string) (hc : P.cellsOf e = 1) (hv : Value.okWide P W r base t v) (h : DataW.Trod enc P W base' spare held t v d p) :
    ∃ (q : Option Addr) (Ps : List (List Nat)) (c : Nat), v = .slice q Ps.length c ∧ (∀ X ∈ Ps, ∀ i, X.getD i 0 < 256) ∧ StrsIn W q Ps ∧ Ps.length ≤ maxLen := by
  obtain ⟨q, n, c, rfl⟩ := okWide_slice ht hv
  obtain ⟨fuel, hf⟩ := h
  obtain ⟨q', Ps, c', e, h1, h2, h3⟩ := strs_cells ht he hc hf
  exact ⟨q', Ps, c', by simpa [Value.cells] using e, h1, h2, h3⟩
end
end Go.Proofs.YtcannnmpemnklaaDoor
namespace Go.Proofs.YtcannnmpemnklaaDoor
open Go.RowKit

theorem laid_mem {P : Program} {W : World} : ∀ (laid : List (String × DataW Unit)) (ps : List MemPlace), DataW.LaidVars P W laid ps → ∀ x ∈ laid, ∃ g t cs fuel p, P.globalNamed x.1 = some g ∧ (P.globals[g]?).map (·.type) = some t ∧ W.var? P x.1 = some cs ∧ DataW.trod (fun _ => ()) P W 0 (fun _ => true) false fuel t cs.toList = some (x.2, p)
  | [], _, _, _, hx => by cases hx
  | (n, d) :: r, ps, h, x, hx => by
    obtain ⟨g, t, cs, fuel, p, q, h1, h2, h3, h4, h5, _⟩ := h
    rcases List.mem_cons.1 hx with rfl | hx
    · exact ⟨g, t, cs, fuel, p, h1, h2, h3, h4⟩
    · exact laid_mem r q h5 x hx
/-- A table of numbers that is laid lies in its block. -/
theorem tab_of {P : Program} {W : World} {laid : List (String × DataW Unit)} {n : String} {D : DataW Unit} {g : Nat} {t e : TypeId} {m : Nat} {k : IntKind} {K : List Nat} (h : laidMetH P laid W) (hH : (laid.all fun x => x.2.handleName?.isNone) = true) (hx : (n, D) ∈ laid)
    (hg : P.globalNamed n = some g) (ht : (P.globals[g]?).map (·.type) = some t) (hu : P.underlying t = some (.array m e)) (he : P.underlying e = some (.int k)) (hc : P.cellsOf e = 1) (hct : P.cellsOf t = m) (hD : D = .agg (K.map fun (x : Nat) => .lit (.int k (x : Int)))) (hK : K.length = m) :
    ∃ T fr, W.heap[g]? = some (.cells (cn k K) T fr) := by
  rw [MakeChecks.laidMetH_plain _ _ _ hH] at h
  obtain ⟨ps, hl, _⟩ := h
  obtain ⟨g', t', cs, fuel, p, h1, h2, h3, h4⟩ := laid_mem laid ps hl _ hx
  obtain rfl := Option.some.inj (hg.symm.trans h1)
  obtain rfl := Option.some.inj (ht.symm.trans h2)
  have hb : ∃ T fr, W.heap[g]? = some (.cells cs T fr) := by
    simp only [World.var?, hg, Option.bind_some] at h3
    split at h3
    · rename_i c T fr hb
      cases h3
      exact ⟨T, fr, hb⟩
    · cases h3
  obtain ⟨T, fr, hb⟩ := hb
  refine ⟨T, fr, ?_⟩
  rw [hb]
  obtain ⟨xs, m1, _, hx1, hlen, hn, hel⟩ := DataW.trod_array hu h4
  have hx2 : D = .agg (xs.map fun x => x.1) := (Prod.mk.inj hx1).1
  rw [hD] at hx2
  have hx3 : (K.map fun (x : Nat) => (DataW.lit (.int k (x : Int)) : DataW Unit)) = xs.map fun x => x.1 := by injection hx2
  have hcs : cs = cn k K := by
    refine Array.ext_getElem? fun i => ?_
    rcases Nat.lt_or_ge i m with hi | hi
    · have e1 := hel i hi
      have e2 : xs[i]? = some (xs[i]'(by omega)) := by simp
      rw [e2, hc] at e1
      obtain ⟨z, e3, e4, _⟩ := DataW.trod_int he e1
      have e5 := congrArg (fun l => l[i]?) hx3
      simp only [List.getElem?_map, e2, e4, List.getElem?_eq_getElem (show i < K.length by omega), Option.map_some, Option.some.injEq, DataW.lit.injEq, Lit.int.injEq] at e5
      have e6 := congrArg (fun l => l[0]?) e3
      rw [Nat.mul_one] at e6
      have e7 : cs[i]? = some (.int k z) := by simpa using e6
      rw [e7, cn_get k K i (by omega), ← e5.2]
      simp [show i < K.length by omega]
    · rw [Array.getElem?_eq_none (by rw [← Array.length_toList, hlen, hct]; exact hi), Array.getElem?_eq_none (by rw [cn_size, hK]; exact hi)]
  rw [hcs]
end Go.Proofs.YtcannnmpemnklaaDoor
