/- The walk of Key of package field. -/
import Derived.Test.YtpgmaidbemndnaaW5
namespace Go.Proofs.Ytpgmaidbemndnaa
open Go.RowKit

def wq (x q : Nat) : Nat := if q = 0 then w0 x else if q = 1 then w1 x else if q = 2 then w2 x else w3 x
/-- Byte j of a number. -/
def kb (x j : Nat) : Nat := wq x (j / 8) / 256 ^ (j % 8) % 256
def keyL (x : Nat) : List Nat := (List.range 32).map (kb x)
theorem keyL_len (x : Nat) : (keyL x).length = 32 := by simp [keyL]
theorem keyL_get (x j : Nat) (h : j < 32) : (keyL x).getD j 0 = kb x j := by simp [keyL, h]
theorem keyL_bytes (x : Nat) : Bytes (keyL x) := by
  refine ⟨keyL_len x, fun i => ?_⟩
  rcases Nat.lt_or_ge i 32 with h | h
  · rw [keyL_get x i h]; exact Nat.mod_lt _ (by decide)
  · simp [keyL, h]

/-- What the loop has laid after k rounds. -/
structure Laid (x : Nat) (cs : Array Value) (k : Nat) : Prop where
  size : cs.size = 32
  at' : ∀ j, j < 32 → j % 8 < k → cs[j]? = some (.int .u8 (kb x j : Nat))

theorem Laid.step {x k : Nat} {cs : Array Value} (h : Laid x cs k) (hk : k < 8) {a b c d : Value} (ha : a = .int .u8 (kb x k : Nat)) (hb : b = .int .u8 (kb x (k + 8) : Nat)) (hc : c = .int .u8 (kb x (k + 16) : Nat)) (hd : d = .int .u8 (kb x (k + 24) : Nat)) :
    Laid x ((((cs.setIfInBounds k a).setIfInBounds (k + 8) b).setIfInBounds (k + 16) c).setIfInBounds (k + 24) d) (k + 1) := by
  have hs := h.size
  refine ⟨by simp [hs], fun j hj hjk => ?_⟩
  simp only [Array.getElem?_setIfInBounds, Array.size_setIfInBounds, hs]
  by_cases e3 : k + 24 = j
  · subst e3; simp [hj, hd]
  · by_cases e2 : k + 16 = j
    · subst e2; simp [hj, hc]
    · by_cases e1 : k + 8 = j
      · subst e1; simp [hj, hb]
      · by_cases e0 : k = j
        · subst e0; simp [hj, ha]
        · simp only [if_neg e3, if_neg e2, if_neg e1, if_neg e0]
          exact h.at' j hj (by omega)

theorem Laid.done {x : Nat} {cs : Array Value} (h : Laid x cs 8) : cs = cs8 (keyL x) := by
  refine Array.ext_getElem? fun j => ?_
  rcases Nat.lt_or_ge j 32 with hj | hj
  · rw [h.at' j hj (by omega), cs8_get _ _ (by rw [keyL_len]; exact hj), keyL_get x j hj]
  · rw [Array.getElem?_eq_none (by rw [h.size]; exact hj), Array.getElem?_eq_none (by simp [cs8, keyL_len]; exact hj)]
theorem Laid.ex {x k : Nat} {cs : Array Value} (h : Laid x cs k) (j : Nat) (hj : j < 32) : ∃ v, cs[j]? = some v := ⟨cs[j]'(by rw [h.size]; exact hj), by simp [h.size, hj]⟩

theorem byte_of (v : Nat) (M : Int) (r : Nat) (hM : M = ((256 ^ r : Nat) : Int)) : IntKind.u8.wrap ((v : Int) / M) = ((v / 256 ^ r % 256 : Nat) : Int) := by
  rw [hM, IntKind.wrap_u8']; omega
theorem byte_of0 (v : Nat) : IntKind.u8.wrap (v : Int) = ((v / 256 ^ 0 % 256 : Nat) : Int) := by
  rw [IntKind.wrap_u8', Nat.pow_zero, Nat.div_one]; omega

theorem cs8_one (ks : List Nat) : (cs8 ks).all (·.oneCell') = true := all_oneCell_toArray (by simp [Value.oneCell'])

set_option maxHeartbeats 4000000 in
theorem key_any (x : Nat) (w : World) :
    Calls Try.prog 10 #[E4 x] w fun e w' => e = .returned (.agg (cs8 (keyL x))) ∧ Below w.heap.size w w' := by
  go_enter Try.func10, Try.ntmps10
  go_wp2
  go_loopw [5] (fun i wr => ∃ (k : Nat) (cs zs : Array Value), k ≤ 8 ∧ i = .int .i64 k ∧ wr.heap[w.heap.size]? = some (.cells #[.int .u64 (w0 x), .int .u64 (w1 x), .int .u64 (w2 x), .int .u64 (w3 x)] 30) ∧
      wr.heap[w.heap.size + 1]? = some (.cells zs 23) ∧ zs.size = 32 ∧ wr.heap[w.heap.size + 1 + 1]? = some (.cells cs 23) ∧ Laid x cs k ∧ Below w.heap.size w wr) (fun i _ => 8 - (intOf i).toNat)
  case atStart =>
    refine ⟨0, _, _, by omega, rfl, ?_, (heap_old _ _ (by simp)).trans (heap_new' _ _ (by simp)), by rfl, heap_new' _ _ (by simp), ⟨by rfl, fun j _ h => by omega⟩, ?_⟩
    · rw [heap_old _ _ (by simp; omega), heap_old _ _ (by simp)]; exact heap_new _ _
    · exact (((Below.refl _ _).alloc (Nat.le_refl _) _).alloc (by simp) _).alloc (by simp; omega) _
  case round =>
    obtain ⟨k, cs, zs, hk, rfl, X, Z, hzs, O, L, B⟩ := hrel
    have XX : Hid _ := X
    have ZZ : Hid _ := Z
    have OO : Hid _ := O
    have LL : Hid _ := L
    have BB : Hid _ := B
    have HZ : Hid _ := hzs
    obtain ⟨q0, q1, q2, q3, _, _, _, _⟩ := cells4 X
    by_cases hlt : k < 8
    · obtain ⟨v0, c0⟩ := L.ex k (by omega)
      obtain ⟨v1, c1⟩ := L.ex (k + 8) (by omega)
      obtain ⟨v2, c2⟩ := L.ex (k + 16) (by omega)
      obtain ⟨v3, c3⟩ := L.ex (k + 24) (by omega)
      have p0 := (cell_of O k).trans c0
      have p1 := (cell_of O (k + 8)).trans c1
      have p2 := (cell_of O (k + 16)).trans c2
      have p3 := (cell_of O (k + 24)).trans c3
      have f0 := frozen_of O k
      have f1 := frozen_of O (k + 8)
      have f2 := frozen_of O (k + 16)
      have f3 := frozen_of O (k + 24)
      clear X Z O L B hzs c0 c1 c2 c3
      have fin : ∀ a b c d : Value, a = .int .u8 (kb x k : Nat) → b = .int .u8 (kb x (k + 8) : Nat) → c = .int .u8 (kb x (k + 16) : Nat) → d = .int .u8 (kb x (k + 24) : Nat) →
          ∀ u : World, u = (((wr.setCell ⟨w.heap.size + 1 + 1, k, none⟩ a).setCell ⟨w.heap.size + 1 + 1, k + 8, none⟩ b).setCell ⟨w.heap.size + 1 + 1, k + 16, none⟩ c).setCell ⟨w.heap.size + 1 + 1, k + 24, none⟩ d →
          ∃ cs zs : Array Value, u.heap[w.heap.size]? = some (.cells #[.int .u64 (w0 x), .int .u64 (w1 x), .int .u64 (w2 x), .int .u64 (w3 x)] 30) ∧
          u.heap[w.heap.size + 1]? = some (.cells zs 23) ∧ zs.size = 32 ∧ u.heap[w.heap.size + 1 + 1]? = some (.cells cs 23) ∧ Laid x cs (k + 1) ∧ Below w.heap.size w u := by
        rintro a b c d ha hb hc hd u rfl
        refine ⟨_, zs, ?_, ?_, HZ.out, heap_set (heap_set (heap_set (heap_set OO.out k a) (k + 8) b) (k + 16) c) (k + 24) d, LL.out.step hlt ha hb hc hd, ?_⟩
        · rw [heap_set_ne _ _ (by omega), heap_set_ne _ _ (by omega), heap_set_ne _ _ (by omega), heap_set_ne _ _ (by omega)]; exact XX.out
        · rw [heap_set_ne _ _ (by omega), heap_set_ne _ _ (by omega), heap_set_ne _ _ (by omega), heap_set_ne _ _ (by omega)]; exact ZZ.out
        · exact (((BB.out.setCell (by simp; omega) _).setCell (by simp; omega) _).setCell (by simp; omega) _).setCell (by simp; omega) _
      have FIN : Hid _ := fin
      clear fin XX ZZ OO LL BB HZ
      obtain rfl | rfl | rfl | rfl | rfl | rfl | rfl | rfl : k = 0 ∨ k = 1 ∨ k = 2 ∨ k = 3 ∨ k = 4 ∨ k = 5 ∨ k = 6 ∨ k = 7 := by omega
      · go_wp2
        go_roundw
        case rel =>
          obtain ⟨cs', zs', h⟩ := FIN.out (.int .u8 (((w0 x : Nat) : Int) % 256)) (.int .u8 (((w1 x : Nat) : Int) % 256)) (.int .u8 (((w2 x : Nat) : Int) % 256)) (.int .u8 (((w3 x : Nat) : Int) % 256)) (int_eq (by simp [kb, wq])) (int_eq (by simp [kb, wq])) (int_eq (by simp [kb, wq])) (int_eq (by simp [kb, wq])) _ rfl
          exact ⟨1, cs', zs', by omega, rfl, h⟩
        case measure => simp [intOf]
      · go_wp2
        go_roundw
        case rel =>
          obtain ⟨cs', zs', h⟩ := FIN.out (.int .u8 (((w0 x : Nat) : Int) / 256 % 256)) (.int .u8 (((w1 x : Nat) : Int) / 256 % 256)) (.int .u8 (((w2 x : Nat) : Int) / 256 % 256)) (.int .u8 (((w3 x : Nat) : Int) / 256 % 256)) (int_eq (by simp [kb, wq])) (int_eq (by simp [kb, wq])) (int_eq (by simp [kb, wq])) (int_eq (by simp [kb, wq])) _ rfl
          exact ⟨2, cs', zs', by omega, rfl, h⟩
        case measure => simp [intOf]
      · go_wp2
        go_roundw
        case rel =>
          obtain ⟨cs', zs', h⟩ := FIN.out (.int .u8 (((w0 x : Nat) : Int) / 65536 % 256)) (.int .u8 (((w1 x : Nat) : Int) / 65536 % 256)) (.int .u8 (((w2 x : Nat) : Int) / 65536 % 256)) (.int .u8 (((w3 x : Nat) : Int) / 65536 % 256)) (int_eq (by simp [kb, wq])) (int_eq (by simp [kb, wq])) (int_eq (by simp [kb, wq])) (int_eq (by simp [kb, wq])) _ rfl
          exact ⟨3, cs', zs', by omega, rfl, h⟩
        case measure => simp [intOf]
      · go_wp2
        go_roundw
        case rel =>
          obtain ⟨cs', zs', h⟩ := FIN.out (.int .u8 (((w0 x : Nat) : Int) / 16777216 % 256)) (.int .u8 (((w1 x : Nat) : Int) / 16777216 % 256)) (.int .u8 (((w2 x : Nat) : Int) / 16777216 % 256)) (.int .u8 (((w3 x : Nat) : Int) / 16777216 % 256)) (int_eq (by simp [kb, wq])) (int_eq (by simp [kb, wq])) (int_eq (by simp [kb, wq])) (int_eq (by simp [kb, wq])) _ rfl
          exact ⟨4, cs', zs', by omega, rfl, h⟩
        case measure => simp [intOf]
      · go_wp2
        go_roundw
        case rel =>
          obtain ⟨cs', zs', h⟩ := FIN.out (.int .u8 (((w0 x : Nat) : Int) / 4294967296 % 256)) (.int .u8 (((w1 x : Nat) : Int) / 4294967296 % 256)) (.int .u8 (((w2 x : Nat) : Int) / 4294967296 % 256)) (.int .u8 (((w3 x : Nat) : Int) / 4294967296 % 256)) (int_eq (by simp [kb, wq])) (int_eq (by simp [kb, wq])) (int_eq (by simp [kb, wq])) (int_eq (by simp [kb, wq])) _ rfl
          exact ⟨5, cs', zs', by omega, rfl, h⟩
        case measure => simp [intOf]
      · go_wp2
        go_roundw
        case rel =>
          obtain ⟨cs', zs', h⟩ := FIN.out (.int .u8 (((w0 x : Nat) : Int) / 1099511627776 % 256)) (.int .u8 (((w1 x : Nat) : Int) / 1099511627776 % 256)) (.int .u8 (((w2 x : Nat) : Int) / 1099511627776 % 256)) (.int .u8 (((w3 x : Nat) : Int) / 1099511627776 % 256)) (int_eq (by simp [kb, wq])) (int_eq (by simp [kb, wq])) (int_eq (by simp [kb, wq])) (int_eq (by simp [kb, wq])) _ rfl
          exact ⟨6, cs', zs', by omega, rfl, h⟩
        case measure => simp [intOf]
      · go_wp2
        go_roundw
        case rel =>
          obtain ⟨cs', zs', h⟩ := FIN.out (.int .u8 (((w0 x : Nat) : Int) / 281474976710656 % 256)) (.int .u8 (((w1 x : Nat) : Int) / 281474976710656 % 256)) (.int .u8 (((w2 x : Nat) : Int) / 281474976710656 % 256)) (.int .u8 (((w3 x : Nat) : Int) / 281474976710656 % 256)) (int_eq (by simp [kb, wq])) (int_eq (by simp [kb, wq])) (int_eq (by simp [kb, wq])) (int_eq (by simp [kb, wq])) _ rfl
          exact ⟨7, cs', zs', by omega, rfl, h⟩
        case measure => simp [intOf]
      · go_wp2
        go_roundw
        case rel =>
          obtain ⟨cs', zs', h⟩ := FIN.out (.int .u8 (((w0 x : Nat) : Int) / 72057594037927936 % 256)) (.int .u8 (((w1 x : Nat) : Int) / 72057594037927936 % 256)) (.int .u8 (((w2 x : Nat) : Int) / 72057594037927936 % 256)) (.int .u8 (((w3 x : Nat) : Int) / 72057594037927936 % 256)) (int_eq (by simp [kb, wq])) (int_eq (by simp [kb, wq])) (int_eq (by simp [kb, wq])) (int_eq (by simp [kb, wq])) _ rfl
          exact ⟨8, cs', zs', by omega, rfl, h⟩
        case measure => simp [intOf]
    · have e : k = 8 := by omega
      subst e
      have e2 := L.done
      subst e2
      have hsz : (cs8 (keyL x)).size = 32 := by simp [cs8, keyL_len]
      have HSZ : Hid _ := hsz
      have ONE : Hid _ := cs8_one (keyL x)
      clear L LL q0 q1 q2 q3 X Z hzs O B XX hsz
      go_wp2_with (first | (refine wpList_load_blk (b := w.heap.size + 1 + 1) rfl rfl rfl OO.out Try.underlying23 rfl (by kernel_rfl) HSZ.out ?_) | (refine wpList_store_blk (b := w.heap.size + 1) rfl rfl rfl rfl ZZ.out (by kernel_rfl) HZ.out HSZ.out ONE.out ?_))
      refine bodyPost_ret (v := .agg (cs8 (keyL x))) (results_blk (b := w.heap.size + 1) Try.results10 rfl (heap_setCells_all (cs8 (keyL x)) ZZ.out (by rw [HZ.out, HSZ.out])) Try.underlying23 rfl (by kernel_rfl) HSZ.out) rfl ⟨rfl, ?_⟩
      exact below_setCells (by omega) _ _ _ BB.out
end Go.Proofs.Ytpgmaidbemndnaa
