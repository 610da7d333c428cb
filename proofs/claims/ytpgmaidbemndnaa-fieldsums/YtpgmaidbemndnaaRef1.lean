/- The walks of prime and carry of the document's answer of layer 1. -/
import Derived.Test.YtpgmaidbemndnaaW5
import Derived.Test.YtpgmaidbemndnaaRefNum
import Derived.Deep.Cut
namespace Go.Proofs.Ytpgmaidbemndnaa
open Go.RowKit

/-- An array of n digits. -/
def ca (n : Nat) (h : Nat → Nat) : Array Value := ((List.range n).map fun i => Value.int .u64 (h i : Nat)).toArray
theorem ca_size (n : Nat) (h : Nat → Nat) : (ca n h).size = n := by simp [ca]
theorem ca_get (n : Nat) (h : Nat → Nat) (j : Nat) (hj : j < n) : (ca n h)[j]? = some (.int .u64 (h j : Nat)) := by simp [ca, hj]
theorem ca_ext {n : Nat} {f g : Nat → Nat} (h : ∀ j, j < n → f j = g j) : ca n f = ca n g := by
  unfold ca
  congr 1
  exact List.map_congr_left fun j hj => by rw [h j (List.mem_range.1 hj)]
theorem ca_set (n : Nat) (h : Nat → Nat) (k v : Nat) (hk : k < n) : (ca n h).setIfInBounds k (.int .u64 (v : Nat)) = ca n (fun j => if j = k then v else h j) := by
  refine Array.ext_getElem? fun j => ?_
  rw [Array.getElem?_setIfInBounds, ca_size]
  by_cases e : k = j
  · subst e
    rw [if_pos rfl, if_pos hk, ca_get _ _ _ hk]
    simp
  · rw [if_neg e]
    rcases Nat.lt_or_ge j n with hj | hj
    · rw [ca_get _ _ _ hj, ca_get _ _ _ hj]
      simp [Ne.symm e]
    · rw [Array.getElem?_eq_none (by rw [ca_size]; exact hj), Array.getElem?_eq_none (by rw [ca_size]; exact hj)]
theorem ca_one (n : Nat) (h : Nat → Nat) : (ca n h).all (·.oneCell') = true := by
  unfold ca
  exact all_oneCell_toArray (by simp [Value.oneCell'])

set_option maxHeartbeats 1000000 in
theorem prime_any (i : Nat) (w : World) : Calls Try.prog 30 #[.int .i64 i] w fun e w' => e = .returned (.int .u64 (pd i : Nat)) ∧ Below w.heap.size w w' := by
  by_cases h0 : i = 0
  · subst h0
    go_enter Try.func30, Try.ntmps30
    go_wp2
    go_ret
    exact ⟨rfl, Below.refl _ _⟩
  · have e0 : (((i : Nat) : Int) == 0) = false := by simp; omega
    by_cases h15 : i = 15
    · subst h15
      go_enter Try.func30, Try.ntmps30
      go_wp2
      go_ret
      exact ⟨rfl, Below.refl _ _⟩
    · have e15 : (((i : Nat) : Int) == 15) = false := by simp; omega
      have hp : Hid (pd i = 65535) := (by unfold pd; rw [if_neg h0, if_neg h15] : pd i = 65535)
      clear h0 h15
      rw [hp.out]
      go_enter Try.func30, Try.ntmps30
      go_wp2
      go_ret
      exact ⟨rfl, Below.refl _ _⟩

def foldN (V : Nat) : Nat → Nat
  | 0 => V
  | r + 1 => fold (foldN V r)
/-- What holds ahead of each pass of carry. -/
structure InvC (V0 r : Nat) (h : Nat → Nat) : Prop where
  small : ∀ j, j < 16 → h j < 144115188075855872
  sum : psum h 16 = foldN V0 r
  over : foldN V0 r / q256 ≤ 1125899906842624
  form : ∀ r', r = r' + 1 → ∀ j, j < 16 → h j = hOf (foldN V0 r') j
theorem InvC.step {V0 r : Nat} {h : Nat → Nat} (H : InvC V0 r h) : InvC V0 (r + 1) (hOf (psum h 16)) := by
  have e := H.sum
  rw [e]
  refine ⟨fun j _ => ?_, psum_hOf _, ?_, fun r' hr j _ => ?_⟩
  · have h1 := dg_lt (foldN V0 r) j
    have h2 := H.over
    unfold hOf
    split <;> omega
  · show fold (foldN V0 r) / q256 ≤ _
    have := (fold_fold H.over).2
    omega
  · have : r' = r := by omega
    rw [this]
/-- What carry leaves: the digits of a number below 2^256 that is what came modulo p. -/
theorem InvC.done {V0 : Nat} {h : Nat → Nat} (h0 : V0 / q256 ≤ 1125899906842624) (H : InvC V0 3 h) : ∀ j, j < 16 → h j = dg (fold (fold V0)) j := fun j hj => by
  rw [H.form 2 rfl j hj]
  have hlt := (fold_fold h0).1
  show hOf (fold (fold V0)) j = _
  unfold hOf
  rw [Nat.div_eq_of_lt hlt]
  split <;> simp

theorem and_16 (s : Nat) (h : s < 18446744073709551616) : bits .and .u64 (s : Int) 65535 = ((s % 65536 : Nat) : Int) := by
  have e := u64_and_nat s 65535 h (by omega)
  rw [show s &&& 65535 = s % 65536 from Nat.and_two_pow_sub_one_eq_mod s 16] at e
  exact e
theorem shr_16 (s : Nat) : (s : Int) / 65536 = ((s / 65536 : Nat) : Int) := by omega

set_option maxRecDepth 100000 in
set_option maxHeartbeats 4000000 in
theorem carry_raw (h0 : Nat → Nat) (H0 : InvC (psum h0 16) 0 h0) (cs : Array Value) (hcs : cs = ca 16 h0) (w : World) :
    Calls Try.prog 33 #[.agg cs] w fun e w' => e = .returned (.agg (ca 16 (dg (fold (fold (psum h0 16)))))) ∧ Below w.heap.size w w' := by
  have HCS : Hid _ := hcs
  have HH : Hid _ := H0
  clear hcs H0
  go_enter Try.func33, Try.ntmps33
  go_wp2_with fail
  go_loopw [3] (fun t wr => ∃ (r : Nat) (h : Nat → Nat) (zs : Array Value), r ≤ 3 ∧ t = .int .i64 r ∧ wr.heap[w.heap.size]? = some (.cells (ca 16 h) 33) ∧ wr.heap[w.heap.size + 1]? = some (.cells zs 33) ∧ zs.size = 16 ∧ InvC (psum h0 16) r h ∧ Below w.heap.size w wr) (fun t _ => 3 - (intOf t).toNat)
  case atStart =>
    refine ⟨0, h0, _, by omega, rfl, ?_, heap_new' _ _ (by simp), rfl, HH.out, ((Below.refl _ _).alloc (Nat.le_refl _) _).alloc (by simp) _⟩
    rw [heap_old _ _ (by simp), ← HCS.out]; exact heap_new _ _
  case round =>
    obtain ⟨r, h, zs, hr, rfl, X, Z, hzs, I, B⟩ := hrel
    have XX : Hid _ := X
    have ZZ : Hid _ := Z
    have II : Hid _ := I
    have BB : Hid _ := B
    have SZ : Hid _ := hzs
    clear X Z I B hzs
    by_cases hlt : r < 3
    · have hr3 : (r : Int) < 3 := by omega
      go_wp2_with fail
      go_loopw [4, 5] (fun c i wx => ∃ k : Nat, k ≤ 16 ∧ i = .int .i64 k ∧ c = .int .u64 (psum h k / 65536 ^ k : Nat) ∧ wx.heap[w.heap.size]? = some (.cells (ca 16 (fun j => if j < k then dg (psum h (j + 1)) j else h j)) 33) ∧ wx.heap[w.heap.size + 1]? = some (.cells zs 33) ∧ Below w.heap.size w wx) (fun _ i _ => 16 - (intOf i).toNat)
      case atStart =>
        refine ⟨0, by omega, rfl, int_eq (by simp [psum]), ?_, ZZ.out, BB.out⟩
        rw [XX.out]
        simp
      case round =>
        obtain ⟨k, hk, rfl, rfl, X, Z, B⟩ := hrel
        have X1 : Hid _ := X
        have Z1 : Hid _ := Z
        have B1 : Hid _ := B
        by_cases hlt2 : k < 16
        · have q := (cell_of X k).trans (ca_get 16 _ k hlt2)
          have f := frozen_of X k
          simp only [Nat.lt_irrefl, if_false] at q
          have hsm := II.out.small
          have bd := psum_div (B := 144115188075855872) (by omega) k (fun j hj => hsm j (by omega))
          have bh := hsm k hlt2
          have es := psum_step h k
          obtain ⟨c, hc⟩ : ∃ c, psum h k / 65536 ^ k = c := ⟨_, rfl⟩
          obtain ⟨s, hs⟩ : ∃ s, psum h (k + 1) / 65536 ^ k = s := ⟨_, rfl⟩
          rw [hc] at bd es
          rw [hs] at es
          rw [hc]
          obtain ⟨c', hc'⟩ : ∃ c', psum h (k + 1) / 65536 ^ (k + 1) = c' := ⟨_, rfl⟩
          obtain ⟨d, hd⟩ : ∃ d, dg (psum h (k + 1)) k = d := ⟨_, rfl⟩
          have c2 : c' = s / 65536 := by rw [← hc', Nat.pow_succ, ← Nat.div_div_eq_div_mul, hs]
          have d2 : d = s % 65536 := by rw [← hd]; unfold dg; rw [hs]
          have e1 : IntKind.u64.wrap ((h k : Int) + (c : Int)) = (s : Int) := by rw [addN, wrapN _ (by omega), es]; congr 1; omega
          have e2 : (s : Int) / 65536 = (c' : Int) := by rw [c2]; exact shr_16 s
          have e3 : bits .and .u64 (s : Int) 65535 = (d : Int) := by rw [d2]; exact and_16 s (by omega)
          have HC' : Hid _ := hc'
          have HD : Hid _ := hd
          clear hc' hd c2 d2
          have k16 : (k : Int) < 16 := by omega
          clear X Z B hsm bd bh es hc hs
          generalize h k = x at *
          go_wp2_with fail
          go_roundw
          case rel =>
            refine ⟨k + 1, by omega, by go_num, int_eq (by rw [HC'.out]), ?_, ?_, ?_⟩
            · refine (heap_set (heap_set X1.out k _) k _).trans ?_
              rw [Array.setIfInBounds_setIfInBounds, ca_set 16 _ k d hlt2]
              congr 2
              refine ca_ext fun j _ => ?_
              by_cases e : j = k
              · rw [if_pos e, if_pos (by omega), e]; exact HD.out.symm
              · rw [if_neg e]
                by_cases e' : j < k
                · rw [if_pos e', if_pos (by omega)]
                · rw [if_neg e', if_neg (by omega)]
            · exact (heap_set_ne _ _ (by omega)).trans ((heap_set_ne _ _ (by omega)).trans Z1.out)
            · exact (B1.out.setCell (by simp) _).setCell (by simp) _
          case measure => simp [intOf]; omega
        · have e : k = 16 := by omega
          subst e
          have X2 : Hid (wr.heap[w.heap.size]? = some (.cells (ca 16 (dg (psum h 16))) 33)) := (by
            rw [X]
            congr 2
            exact ca_ext fun j hj => by rw [if_pos hj]; exact (dg_psum h 16 j hj).symm : wr.heap[w.heap.size]? = some (.cells (ca 16 (dg (psum h 16))) 33))
          have q := (cell_of X2.out 0).trans (ca_get 16 _ 0 (by omega))
          have f := frozen_of X2.out 0
          have ov := II.out.over
          rw [← II.out.sum] at ov
          obtain ⟨c, hc⟩ : ∃ c, psum h 16 / 65536 ^ 16 = c := ⟨_, rfl⟩
          have hc2 : psum h 16 / q256 = c := hc
          rw [hc2] at ov
          have bdg := dg_lt (psum h 16) 0
          rw [hc]
          have e1 : IntKind.u64.wrap (38 * (c : Int)) = ((38 * c : Nat) : Int) := wrapN (38 * c) (by omega)
          obtain ⟨t, ht⟩ : ∃ t, hOf (psum h 16) 0 = t := ⟨_, rfl⟩
          have ht2 : dg (psum h 16) 0 + 38 * c = t := by rw [← ht]; unfold hOf; rw [if_pos rfl, hc2]
          have e2 : IntKind.u64.wrap (((dg (psum h 16) 0 : Nat) : Int) + 38 * (c : Int)) = (t : Int) := by
            rw [show ((dg (psum h 16) 0 : Nat) : Int) + 38 * (c : Int) = ((dg (psum h 16) 0 + 38 * c : Nat) : Int) by omega, wrapN _ (by omega), ht2]
          have HT : Hid _ := ht
          have HN : Hid (∀ j, j ≠ 0 → hOf (psum h 16) j = dg (psum h 16) j) := fun j hj => by unfold hOf; rw [if_neg hj, Nat.add_zero]
          generalize dg (psum h 16) 0 = y at *
          clear X Z B ov bdg hc hc2 ht ht2 hk hlt2
          go_wp2_with fail
          refine ⟨⟨r + 1, hOf (psum h 16), zs, by omega, by go_num, ?_, (heap_set_ne _ _ (by omega)).trans Z1.out, SZ.out, II.out.step, B1.out.setCell (by simp) _⟩, by simp [intOf]; omega⟩
          refine (heap_set X2.out 0 _).trans ?_
          rw [ca_set 16 _ 0 t (by omega)]
          congr 2
          refine ca_ext fun j _ => ?_
          by_cases e : j = 0
          · rw [if_pos e, e]; exact HT.out.symm
          · rw [if_neg e]; exact (HN.out j e).symm
    · have e : r = 3 := by omega
      subst e
      have X2 : Hid (wr.heap[w.heap.size]? = some (.cells (ca 16 (dg (fold (fold (psum h0 16))))) 33)) := (by
        rw [XX.out]
        congr 2
        exact ca_ext (II.out.done HH.out.over) : wr.heap[w.heap.size]? = some (.cells (ca 16 (dg (fold (fold (psum h0 16))))) 33))
      have O : Hid _ := ca_one 16 (dg (fold (fold (psum h0 16))))
      have S : Hid _ := ca_size 16 (dg (fold (fold (psum h0 16))))
      clear XX II hr hlt
      go_wp2_with (first | (refine wpList_load_blk (b := w.heap.size) rfl rfl rfl X2.out Try.underlying33 rfl (by kernel_rfl) S.out ?_) | (refine wpList_store_blk (b := w.heap.size + 1) rfl rfl rfl rfl ZZ.out (by kernel_rfl) SZ.out S.out O.out ?_))
      refine bodyPost_ret (v := .agg (ca 16 (dg (fold (fold (psum h0 16)))))) (results_blk (b := w.heap.size + 1) Try.results33 rfl (heap_setCells_all _ ZZ.out (by rw [SZ.out, S.out])) Try.underlying33 rfl (by kernel_rfl) S.out) rfl ⟨rfl, ?_⟩
      exact below_setCells (by omega) _ _ _ BB.out

theorem carry_any (h : Nat → Nat) (hh : ∀ j, j < 16 → h j < 1125899906842624) (w : World) :
    Calls Try.prog 33 #[.agg (ca 16 h)] w fun e w' => e = .returned (.agg (ca 16 (dg (fold (fold (psum h 16)))))) ∧ Below w.heap.size w w' :=
  carry_raw h ⟨fun j hj => Nat.lt_of_lt_of_le (hh j hj) (by omega), rfl, psum_div (by omega) 16 hh, fun _ h => by omega⟩ _ rfl w
end Go.Proofs.Ytpgmaidbemndnaa
