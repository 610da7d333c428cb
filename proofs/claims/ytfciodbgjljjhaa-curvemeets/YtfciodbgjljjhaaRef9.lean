/- The walk of Inv of the document's answer of layer 1. -/
import Derived.Test.YtfciodbgjljjhaaRef8
import Derived.Test.YtfciodbgjljjhaaInvNum
namespace Go.Proofs.Ytfciodbgjljjhaa
open Go.RowKit

theorem pN_q : pN < q256 := by decide
theorem invTo_q (x j : Nat) : invTo x j < q256 := by rw [q256_top]; exact invTo_lt x j
theorem invTo_one (x : Nat) (hx : x < pN) : invTo x 1 = x := by
  show (if (0 : Nat) = 252 ∨ (0 : Nat) = 250 then _ else (1 * 1 % pN) * x % pN) = x
  rw [if_neg (by omega), show 1 * 1 % pN = 1 by decide, Nat.one_mul, Nat.mod_eq_of_lt hx]

set_option maxRecDepth 100000 in
set_option maxHeartbeats 8000000 in
theorem rinv_raw (x : Nat) (hx : x < pN) (c : Array Value) (hc : c = ca 16 (dg x)) (w : World) :
    Calls Try.prog 29 #[.agg c] w fun e w' => e = .returned (.agg (ca 16 (dg (invTo x 255)))) ∧ Below w.heap.size w w' := by
  obtain ⟨r, hr⟩ : ∃ r, invTo x 255 = r := ⟨_, rfl⟩
  rw [hr]
  have HR : Hid _ := hr
  have HX : Hid _ := hx
  have HC : Hid _ := hc
  have SC : Hid (c.size = 16) := (by rw [hc]; exact ca_size _ _ : c.size = 16)
  have OC : Hid (c.all (·.oneCell') = true) := (by rw [hc]; exact ca_one _ _ : c.all (·.oneCell') = true)
  clear hr hx hc
  go_enter Try.func29, Try.ntmps29
  go_upto_region 1 with fail
  refine wp_region_list ?_
  refine wpList_load_blk (b := w.heap.size) rfl rfl rfl ((heap_old _ _ (by simp)).trans (heap_new _ _)) Try.underlying56 rfl (by kernel_rfl) SC.out ?_
  simp only [Act.put]
  go_upto_region 2 with (refine wpList_store_blk (b := w.heap.size + 1 + 1) rfl rfl rfl rfl (heap_new' _ _ (by simp)) (by kernel_rfl) rfl SC.out OC.out ?_)
  generalize hW : World.setCells _ _ 0 _ = W
  have X0 : Hid (W.heap[w.heap.size]? = some (.cells (ca 16 (dg x)) 56)) := (by rw [← hW]; exact (heap_setCells_ne (by omega) _ _ _).trans ((heap_old _ _ (by simp; omega)).trans ((heap_old _ _ (by simp)).trans ((heap_new _ _).trans (cells_eq HC.out)))) : W.heap[w.heap.size]? = some (.cells (ca 16 (dg x)) 56))
  obtain ⟨zs, Z0', hzs⟩ : ∃ zs, W.heap[w.heap.size + 1]? = some (.cells zs 56) ∧ zs.size = 16 := ⟨_, by rw [← hW]; exact (heap_setCells_ne (by omega) _ _ _).trans ((heap_old _ _ (by simp)).trans (heap_new' _ _ (by simp))), rfl⟩
  have O0 : Hid (W.heap[w.heap.size + 1 + 1]? = some (.cells (ca 16 (dg (invTo x 1))) 56)) := (by rw [← hW, invTo_one x HX.out]; exact (heap_setCells_all c (heap_new' _ _ (by simp)) (by rw [SC.out]; rfl)).trans (cells_eq HC.out) : W.heap[w.heap.size + 1 + 1]? = some (.cells (ca 16 (dg (invTo x 1))) 56))
  have B0 : Hid (Below w.heap.size w W) := (by rw [← hW]; exact below_setCells (by omega) _ _ _ ((((Below.refl _ _).alloc (Nat.le_refl _) _).alloc (by simp) _).alloc (by simp; omega) _) : Below w.heap.size w W)
  have Z0 : Hid _ := Z0'
  have SZ : Hid _ := hzs
  clear hW Z0' hzs HC SC OC
  go_wp2_with fail
  go_loopw [4] (fun i wr => ∃ j : Nat, 1 ≤ j ∧ j ≤ 255 ∧ i = .int .i64 (254 - (j : Int)) ∧ wr.heap[w.heap.size]? = some (.cells (ca 16 (dg x)) 56) ∧ wr.heap[w.heap.size + 1]? = some (.cells zs 56) ∧ wr.heap[w.heap.size + 1 + 1]? = some (.cells (ca 16 (dg (invTo x j))) 56) ∧ Below w.heap.size w wr) (fun i _ => (intOf i + 1).toNat)
  case atStart => exact ⟨1, by omega, by omega, rfl, X0.out, Z0.out, O0.out, B0.out⟩
  case round =>
    obtain ⟨j, hj1, hj, rfl, X, Z, O, B⟩ := hrel
    obtain ⟨n, hn⟩ : ∃ n : Int, n = 254 - (j : Int) := ⟨_, rfl⟩
    rw [← hn]
    have BB : Hid _ := B
    have XX : Hid _ := X
    have ZZ : Hid _ := Z
    have OO : Hid _ := O
    clear X Z O B X0 Z0 O0 B0
    by_cases hlt : j < 255
    · obtain ⟨s, hs⟩ : ∃ s, invTo x j * invTo x j % pN = s := ⟨_, rfl⟩
      have P1 := fun w => rmul_any (invTo x j) (invTo x j) (invTo_q x j) (invTo_q x j) w
      rw [hs] at P1
      have P2 : Hid _ := P1
      clear P1
      have hsl : s < q256 := by rw [← hs]; exact Nat.lt_trans (Nat.mod_lt _ (by decide)) pN_q
      obtain ⟨t, ht⟩ : ∃ t, s * x % pN = t := ⟨_, rfl⟩
      have P3 := fun w => rmul_any s x hsl (Nat.lt_trans HX.out pN_q) w
      rw [ht] at P3
      have P4 : Hid _ := P3
      clear P3 hsl
      have HS : Hid _ := hs
      have HT : Hid _ := ht
      clear hs ht
      have n0 : 0 ≤ n := by omega
      have n1 : n ≤ 253 := by omega
      have HN : Hid (n = 254 - (j : Int)) := hn
      clear hn
      generalize hI : invTo x j = y at OO P2
      have HI : Hid _ := hI
      clear hI
      go_upto_region 5 with fail
      refine wp_region_list ?_
      refine wpList_load_blk (b := w.heap.size + 1 + 1) rfl rfl rfl OO.out Try.underlying56 rfl (by kernel_rfl) (ca_size _ _) ?_
      simp only [Act.put]
      refine wpList_load_blk (b := w.heap.size + 1 + 1) rfl rfl rfl OO.out Try.underlying56 rfl (by kernel_rfl) (ca_size _ _) ?_
      simp only [Act.put]
      go_wp2_with fail
      refine (P2.out _).mono ?_
      rintro e u1 ⟨rfl, hb⟩
      have X1 : Hid _ := keep hb XX.out
      have Z1 : Hid _ := keep hb ZZ.out
      have O1 : Hid _ := keep hb OO.out
      have B1 : Hid (Below w.heap.size w u1) := BB.out.trans (hb.mono BB.out.size)
      clear hb BB XX ZZ OO
      go_upto_region 6 with (refine wpList_store_blk (b := w.heap.size + 1 + 1) rfl rfl rfl rfl O1.out (by kernel_rfl) (ca_size _ _) (ca_size _ _) (ca_one _ _) ?_)
      generalize hV : World.setCells _ _ 0 _ = V
      have X2 : Hid (V.heap[w.heap.size]? = some (.cells (ca 16 (dg x)) 56)) := (by rw [← hV]; exact (heap_setCells_ne (by omega) _ _ _).trans X1.out : V.heap[w.heap.size]? = some (.cells (ca 16 (dg x)) 56))
      have Z2 : Hid (V.heap[w.heap.size + 1]? = some (.cells zs 56)) := (by rw [← hV]; exact (heap_setCells_ne (by omega) _ _ _).trans Z1.out : V.heap[w.heap.size + 1]? = some (.cells zs 56))
      have O2 : Hid (V.heap[w.heap.size + 1 + 1]? = some (.cells (ca 16 (dg s)) 56)) := (by rw [← hV]; exact heap_setCells_all _ O1.out (by rw [ca_size, ca_size]) : V.heap[w.heap.size + 1 + 1]? = some (.cells (ca 16 (dg s)) 56))
      have B2 : Hid (Below w.heap.size w V) := (by rw [← hV]; exact below_setCells (by omega) _ _ _ B1.out : Below w.heap.size w V)
      clear hV X1 Z1 O1 B1
      by_cases hb : j = 252 ∨ j = 250
      · have E1 : Hid (invTo x (j + 1) = s) := (by show (if j = 252 ∨ j = 250 then _ else _) = _; rw [if_pos hb]; exact HS.out : invTo x (j + 1) = s)
        rcases hb with hb | hb
        · have e : n = 2 := by have := HN.out; omega
          have HB : Hid _ := hb
          clear hb
          subst e
          go_wp2_with fail
          go_roundw
          case rel => exact ⟨j + 1, by omega, by have := HB.out; omega, by have := HB.out; exact int_eq (by omega), X2.out, Z2.out, by rw [E1.out]; exact O2.out, B2.out⟩
          case measure => simp [intOf]
        · have e : n = 4 := by have := HN.out; omega
          have HB : Hid _ := hb
          clear hb
          subst e
          go_wp2_with fail
          go_roundw
          case rel => exact ⟨j + 1, by omega, by have := HB.out; omega, by have := HB.out; exact int_eq (by omega), X2.out, Z2.out, by rw [E1.out]; exact O2.out, B2.out⟩
          case measure => simp [intOf]
      · have E1 : Hid (invTo x (j + 1) = t) := (by show (if j = 252 ∨ j = 250 then _ else _) = _; rw [if_neg hb, HS.out]; exact HT.out : invTo x (j + 1) = t)
        have t2 : (n != 2) = true := by have := HN.out; simp; omega
        have t4 : (n != 4) = true := by have := HN.out; simp; omega
        clear hb HS HT
        go_upto_region 7 with fail
        refine wp_region_list ?_
        refine wpList_load_blk (b := w.heap.size + 1 + 1) rfl rfl rfl O2.out Try.underlying56 rfl (by kernel_rfl) (ca_size _ _) ?_
        simp only [Act.put]
        refine wpList_load_blk (b := w.heap.size) rfl rfl rfl X2.out Try.underlying56 rfl (by kernel_rfl) (ca_size _ _) ?_
        simp only [Act.put]
        go_wp2_with fail
        refine (P4.out _).mono ?_
        rintro e u2 ⟨rfl, hb⟩
        have X3 : Hid _ := keep hb X2.out
        have Z3 : Hid _ := keep hb Z2.out
        have O3 : Hid _ := keep hb O2.out
        have B3 : Hid (Below w.heap.size w u2) := B2.out.trans (hb.mono B2.out.size)
        clear hb X2 Z2 O2 B2
        go_upto_region 4 with (refine wpList_store_blk (b := w.heap.size + 1 + 1) rfl rfl rfl rfl O3.out (by kernel_rfl) (ca_size _ _) (ca_size _ _) (ca_one _ _) ?_)
        generalize hV : World.setCells _ _ 0 _ = V'
        have X4 : Hid (V'.heap[w.heap.size]? = some (.cells (ca 16 (dg x)) 56)) := (by rw [← hV]; exact (heap_setCells_ne (by omega) _ _ _).trans X3.out : V'.heap[w.heap.size]? = some (.cells (ca 16 (dg x)) 56))
        have Z4 : Hid (V'.heap[w.heap.size + 1]? = some (.cells zs 56)) := (by rw [← hV]; exact (heap_setCells_ne (by omega) _ _ _).trans Z3.out : V'.heap[w.heap.size + 1]? = some (.cells zs 56))
        have O4 : Hid (V'.heap[w.heap.size + 1 + 1]? = some (.cells (ca 16 (dg t)) 56)) := (by rw [← hV]; exact heap_setCells_all _ O3.out (by rw [ca_size, ca_size]) : V'.heap[w.heap.size + 1 + 1]? = some (.cells (ca 16 (dg t)) 56))
        have B4 : Hid (Below w.heap.size w V') := (by rw [← hV]; exact below_setCells (by omega) _ _ _ B3.out : Below w.heap.size w V')
        clear hV X3 Z3 O3 B3
        go_wp2_with fail
        go_roundw
        case rel => exact ⟨j + 1, by omega, by omega, by have := HN.out; exact int_eq (by omega), X4.out, Z4.out, by rw [E1.out]; exact O4.out, B4.out⟩
        case measure => simp [intOf]; omega
    · have e : j = 255 := by omega
      subst e
      have e2 : n = -1 := by omega
      clear hn
      subst e2
      rw [HR.out] at OO
      clear hlt hj hj1
      go_upto_region 8 with fail
      refine wp_region_list ?_
      refine wpList_load_blk (b := w.heap.size + 1 + 1) rfl rfl rfl OO.out Try.underlying56 rfl (by kernel_rfl) (ca_size _ _) ?_
      simp only [Act.put]
      refine wpList_store_blk (b := w.heap.size + 1) rfl rfl rfl rfl ZZ.out (by kernel_rfl) SZ.out (ca_size _ _) (ca_one _ _) ?_
      go_wp2_with fail
      refine bodyPost_ret (v := .agg (ca 16 (dg r))) (results_blk (b := w.heap.size + 1) Try.results29 rfl (heap_setCells_all (ca 16 (dg r)) ZZ.out (by rw [SZ.out, ca_size])) Try.underlying56 rfl (by kernel_rfl) (ca_size _ _)) rfl ⟨rfl, ?_⟩
      exact below_setCells (by omega) _ _ _ BB.out

theorem rinv_any (x : Nat) (hx : x < pN) (w : World) :
    Calls Try.prog 29 #[.agg (ca 16 (dg x))] w fun e w' => e = .returned (.agg (ca 16 (dg (invTo x 255)))) ∧ Below w.heap.size w w' := rinv_raw x hx _ rfl w
end Go.Proofs.Ytfciodbgjljjhaa
