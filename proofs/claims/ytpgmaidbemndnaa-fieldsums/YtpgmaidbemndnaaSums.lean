/- FieldSums: the walk. -/
import Derived.Test.YtpgmaidbemndnaaSums1
import Derived.Test.YtpgmaidbemndnaaRef5
import Derived.Test.YtpgmaidbemndnaaRef6
import Derived.Test.YtpgmaidbemndnaaRef10
namespace Go.Proofs.Ytpgmaidbemndnaa
open Go.RowKit

theorem ca_zero : (#[.int .u64 0, .int .u64 0, .int .u64 0, .int .u64 0, .int .u64 0, .int .u64 0, .int .u64 0, .int .u64 0, .int .u64 0, .int .u64 0, .int .u64 0, .int .u64 0, .int .u64 0, .int .u64 0, .int .u64 0, .int .u64 0] : Array Value) = ca 16 (dg 0) := by simp [ca, dg, List.range, List.range.loop]
theorem run_load_mid_op {P : Program} {o : Oper} {a : Act} {w : World} {t b k : Nat} {ty : TypeId} {cs : Array Value} {d : TypeDesc} (ho : o.op = .load ty (.tmp t)) (ha : a.tmps[t]? = some (.pointer (some ⟨b, k, none⟩))) (h : w.rangeAt b k cs.toList) (hu : P.underlying ty = some d) (hd : d.isRow = true)
    (hi : (P.info? ty).map (·.size) = some cs.size) : (execOp a.eval o).run P w = .ok (.value (.agg cs)) w := by
  have e : a.eval (.tmp t) = .pointer (some ⟨b, k, none⟩) := by simp [Act.eval, ha]
  have := run_loadAt_mid (P := P) w b k ty cs.toList d h hu hd (by rw [hi]; simp)
  simp only [execOp, ho, e, Sem.run_bind, this, Result.andThen_ok, Sem.run_pure]
theorem elem_info : ∃ i, Try.prog.info? 30 = some i ∧ i.zero = some (.agg #[.int .u64 0, .int .u64 0, .int .u64 0, .int .u64 0]) ∧ i.size = 4 ∧ i.bytes = 32 := by
  obtain ⟨i, hi⟩ := Option.isSome_iff_exists.1 (show (Try.prog.info? 30).isSome = true by kernel_rfl)
  have h1 : (Try.prog.info? 30).bind (·.zero) = some (.agg #[.int .u64 0, .int .u64 0, .int .u64 0, .int .u64 0]) := by kernel_rfl
  have h2 : (Try.prog.info? 30).map (·.size) = some 4 := by kernel_rfl
  have h3 : (Try.prog.info? 30).map (·.bytes) = some 32 := by kernel_rfl
  rw [hi] at h1 h2 h3
  exact ⟨i, hi, by simpa using h1, by simpa using h2, by simpa using h3⟩
theorem range_keep {W v : World} {b k : Nat} {l : List Value} (h : W.rangeAt b k l) (hb : b < W.heap.size) (hB : Below W.heap.size W v) : v.rangeAt b k l := fun j u hj => by
  have := h j u hj
  simp only [World.cell?, hB.block b hb] at this ⊢
  exact this

theorem Mem.tail {B : Nat} {w0 w : World} {x : Nat × Obj} {l : List (Nat × Obj)} (M : Mem B w0 w (x :: l)) : Mem B w0 w l :=
  ⟨M.below, fun i y h => M.has (i + 1) y (by simpa using h), fun i j y z h1 h2 hn => M.apart (i + 1) (j + 1) y z (by simpa using h1) (by simpa using h2) (by omega), fun i y h => M.base (i + 1) y (by simpa using h)⟩
theorem own_store {w : World} {base b : Nat} {v : Value} {n : Nat} {xs vs : List Value} (ho : w.ownsRow base 30 4 v n xs) (hb : v.ownBlock ≠ some b) : (w.setCells b 0 vs).ownsRow base 30 4 v n xs := by
  refine ⟨ho.1, ?_⟩
  rcases ho.2 with h | ⟨g, cap, cur, hv, hbg, hg, hr⟩
  · exact .inl h
  · refine .inr ⟨g, cap, cur, hv, hbg, (heap_setCells_ne (fun e => hb ?_) _ _ _).trans hg, hr⟩
    rw [hv, ← e]; rfl

set_option maxRecDepth 100000 in
set_option maxHeartbeats 8000000 in
theorem sums_raw (p : Option Addr) (n c : Nat) (h63 : n ≤ 9223372036854775807) (ks : Nat → List Nat) (el : Nat → Nat) (hks : ∀ i, Bytes (ks i)) (hel : ∀ i, numOf (ks i) % pN = el i) (w : World)
    (hp : ∀ i, i < n → ∃ b off, p = some ⟨b, off, none⟩ ∧ b < w.heap.size ∧ w.rangeAt b (off + i * 32) (cs8 (ks i)).toList) :
    Calls Try.prog 4 #[.slice p n c] w fun e w' => e = .returned (.bool true) ∧ Below w.heap.size w w' := by
  have ell : ∀ i, el i < pN := fun i => hel i ▸ Nat.mod_lt _ (by decide)
  have HP : Hid _ := hp
  have HK : Hid _ := hks
  have HE : Hid _ := hel
  clear hp hks hel
  by_cases hn : n ≤ 40
  · have hn' : ¬ (40 : Int) < (n : Int) := by omega
    have HELL : Hid _ := ell
    clear ell
    go_enter Try.func4, Try.ntmps4
    go_upto_region 4 with fail
    refine wp_region_list ?_
    refine wpList_value (v := .agg #[.int .u64 0, .int .u64 0, .int .u64 0, .int .u64 0, .int .u64 0, .int .u64 0, .int .u64 0, .int .u64 0, .int .u64 0, .int .u64 0, .int .u64 0, .int .u64 0, .int .u64 0, .int .u64 0, .int .u64 0, .int .u64 0]) rfl (by simp [execOp, go_sem]) ?_
    simp only [Act.put, List.setIfInBounds_toArray, List.set_cons_succ, List.set_cons_zero]
    refine wpList_call rfl (by simp [Act.eval, go_sem]) (small_any 1 (by decide) _) fun z1 hb1 => ?_
    have M1 : Mem w.heap.size w z1 [] := (Mem.start w).keep hb1
    simp only [Act.put, List.setIfInBounds_toArray, List.set_cons_succ, List.set_cons_zero]
    refine wpList_alloc (o := .cells #[.int .u64 0, .int .u64 0, .int .u64 0, .int .u64 0, .int .u64 0, .int .u64 0, .int .u64 0, .int .u64 0, .int .u64 0, .int .u64 0, .int .u64 0, .int .u64 0, .int .u64 0, .int .u64 0, .int .u64 0, .int .u64 0] 33) (v := .pointer (some ⟨z1.heap.size, 0, none⟩)) rfl (by simp [execOp, go_sem]) ?_
    simp only [Act.put, List.setIfInBounds_toArray, List.set_cons_succ, List.set_cons_zero]
    have M2 := M1.alloc (.cells #[.int .u64 0, .int .u64 0, .int .u64 0, .int .u64 0, .int .u64 0, .int .u64 0, .int .u64 0, .int .u64 0, .int .u64 0, .int .u64 0, .int .u64 0, .int .u64 0, .int .u64 0, .int .u64 0, .int .u64 0, .int .u64 0] 33)
    generalize z1.alloc (.cells #[.int .u64 0, .int .u64 0, .int .u64 0, .int .u64 0, .int .u64 0, .int .u64 0, .int .u64 0, .int .u64 0, .int .u64 0, .int .u64 0, .int .u64 0, .int .u64 0, .int .u64 0, .int .u64 0, .int .u64 0, .int .u64 0] 33) = z2 at *
    generalize z1.heap.size = g4 at *
    refine wpList_alloc (o := .cells #[.int .u64 0, .int .u64 0, .int .u64 0, .int .u64 0, .int .u64 0, .int .u64 0, .int .u64 0, .int .u64 0, .int .u64 0, .int .u64 0, .int .u64 0, .int .u64 0, .int .u64 0, .int .u64 0, .int .u64 0, .int .u64 0] 33) (v := .pointer (some ⟨z2.heap.size, 0, none⟩)) rfl (by simp [execOp, go_sem]) ?_
    simp only [Act.put, List.setIfInBounds_toArray, List.set_cons_succ, List.set_cons_zero]
    have M3 := M2.alloc (.cells #[.int .u64 0, .int .u64 0, .int .u64 0, .int .u64 0, .int .u64 0, .int .u64 0, .int .u64 0, .int .u64 0, .int .u64 0, .int .u64 0, .int .u64 0, .int .u64 0, .int .u64 0, .int .u64 0, .int .u64 0, .int .u64 0] 33)
    generalize z2.alloc (.cells #[.int .u64 0, .int .u64 0, .int .u64 0, .int .u64 0, .int .u64 0, .int .u64 0, .int .u64 0, .int .u64 0, .int .u64 0, .int .u64 0, .int .u64 0, .int .u64 0, .int .u64 0, .int .u64 0, .int .u64 0, .int .u64 0] 33) = z3 at *
    generalize z2.heap.size = g5 at *
    refine wpList_store_blk (b := g4) rfl rfl rfl rfl (M3.get 1 rfl) (by kernel_rfl) rfl rfl (by simp [Value.oneCell']) ?_
    simp only [Act.put]
    have M4 := M3.store 1 #[.int .u64 0, .int .u64 0, .int .u64 0, .int .u64 0, .int .u64 0, .int .u64 0, .int .u64 0, .int .u64 0, .int .u64 0, .int .u64 0, .int .u64 0, .int .u64 0, .int .u64 0, .int .u64 0, .int .u64 0, .int .u64 0] rfl rfl
    generalize World.setCells z3 g4 0 _ = z4 at *
    refine wpList_store_blk (b := g5) rfl rfl rfl rfl (M4.get 0 rfl) (by kernel_rfl) rfl (ca_size _ _) (ca_one _ _) ?_
    simp only [Act.put]
    generalize h5 : World.setCells z4 g5 0 _ = z5
    have HS : Hid (Mem w.heap.size w z5 [(g5, .cells (ca 16 (dg (pTo el 0))) 33), (g4, .cells (ca 16 (dg (sTo el 0))) 33)]) := (by rw [← h5]; show Mem _ _ _ [(g5, .cells (ca 16 (dg 1)) 33), (g4, .cells (ca 16 (dg 0)) 33)]; rw [← ca_zero]; exact M4.store 0 (ca 16 (dg 1)) rfl (by simp [ca_size]) : Mem w.heap.size w z5 [(g5, .cells (ca 16 (dg (pTo el 0))) 33), (g4, .cells (ca 16 (dg (sTo el 0))) 33)])
    clear h5 M1 M2 M3 M4 hb1
    go_wp2_with fail
    go_loopw [3, 6] (fun xs i wr => ∃ k : Nat, k ≤ n ∧ i = .int .i64 k ∧ wr.ownsRow w.heap.size 30 4 xs k (xsTo el k) ∧ (∀ g, xs.ownBlock = some g → g ≠ g4 ∧ g ≠ g5) ∧ Mem w.heap.size w wr [(g5, .cells (ca 16 (dg (pTo el k))) 33), (g4, .cells (ca 16 (dg (sTo el k))) 33)]) (fun _ i _ => n - (intOf i).toNat)
    case atStart => exact ⟨0, by omega, rfl, World.ownsRow_nil _ _ _ _, (fun g h => by simp [Value.ownBlock] at h), HS.out⟩
    case round =>
      obtain ⟨k, hk, rfl, ow, ap, MM⟩ := hrel
      have HM : Hid _ := MM
      have OW : Hid _ := ow
      have AP : Hid _ := ap
      clear MM ow ap HS
      by_cases hlt : k < n
      · obtain ⟨b, off, rfl, hbl, hr⟩ := HP.out k hlt
        have HR : Hid _ := hr
        have kk := HK.out k
        have hke := HE.out k
        have S32 : (cs8 (ks k)).size = 32 := cs8_size kk.1
        have k0 : (0 : Int) ≤ k := by omega
        have k1 : (k : Int) < (n : Int) := by omega
        clear hr
        go_upto_region 8 with fail
        refine wp_region_list ?_
        refine wpList_value (v := u3) rfl (by simp [execOp, Act.eval]) ?_
        simp only [Act.put, List.setIfInBounds_toArray, List.set_cons_succ, List.set_cons_zero]
        refine wpList_value (v := .slice (some ⟨b, off, none⟩) n c) rfl (by simp [execOp, Act.eval]) ?_
        simp only [Act.put, List.setIfInBounds_toArray, List.set_cons_succ, List.set_cons_zero]
        refine wpList_value (v := .int .i64 (k : Nat)) rfl (by simp [execOp, Act.eval]) ?_
        simp only [Act.put, List.setIfInBounds_toArray, List.set_cons_succ, List.set_cons_zero]
        refine wpList_value (v := .pointer (some ⟨b, off + k * 32, none⟩)) rfl (by simp [execOp, Act.eval, go_sem]; intro h; omega) ?_
        simp only [Act.put, List.setIfInBounds_toArray, List.set_cons_succ, List.set_cons_zero]
        refine wpList_value (v := .agg (cs8 (ks k))) rfl (run_load_mid_op (t := 22) rfl rfl (range_keep HR.out hbl HM.out.below) Try.underlying23 rfl (by rw [S32]; kernel_rfl)) ?_
        simp only [Act.put, List.setIfInBounds_toArray, List.set_cons_succ, List.set_cons_zero]
        refine wpList_call rfl (by simp [Act.eval, go_sem]) (hke ▸ of_any (ks k) kk _) fun v1 hb1 => ?_
        have M1 : Hid _ := HM.out.keep hb1
        have O1 : Hid _ := own_keep OW.out hb1
        clear hb1 HM OW
        simp only [Act.put, List.setIfInBounds_toArray, List.set_cons_succ, List.set_cons_zero]
        refine wpList_alloc (o := .cells #[.int .u64 (w0 (el k) : Nat), .int .u64 (w1 (el k) : Nat), .int .u64 (w2 (el k) : Nat), .int .u64 (w3 (el k) : Nat)] 30) (v := .slice (some ⟨v1.heap.size, 0, none⟩) 1 1) rfl (by simp [execOp, Act.eval, go_sem]) ?_
        simp only [Act.put, List.setIfInBounds_toArray, List.set_cons_succ, List.set_cons_zero]
        have M2 : Hid _ := (M1.out.alloc (.cells #[.int .u64 (w0 (el k) : Nat), .int .u64 (w1 (el k) : Nat), .int .u64 (w2 (el k) : Nat), .int .u64 (w3 (el k) : Nat)] 30))
        have O2 : Hid _ := own_keep O1.out ((Below.refl _ _).alloc (Nat.le_refl _) (.cells #[.int .u64 (w0 (el k) : Nat), .int .u64 (w1 (el k) : Nat), .int .u64 (w2 (el k) : Nat), .int .u64 (w3 (el k) : Nat)] 30))
        have OL : Hid (∀ g, u3.ownBlock = some g → w.heap.size ≤ g ∧ g < v1.heap.size) := (fun g hg => World.ownsRow.lt O1.out g hg : ∀ g, u3.ownBlock = some g → w.heap.size ≤ g ∧ g < v1.heap.size)
        clear M1 O1
        generalize v1.alloc (.cells #[.int .u64 (w0 (el k) : Nat), .int .u64 (w1 (el k) : Nat), .int .u64 (w2 (el k) : Nat), .int .u64 (w3 (el k) : Nat)] 30) = v2 at *
        generalize hgn : v1.heap.size = gn at *
        have hsz : w.heap.size ≤ v2.heap.size := M2.out.size
        obtain ⟨inf, hinf, hz1, hz2, hz3⟩ := elem_info
        refine wpList_append_lies _ (by rfl) (.tmp 19) (.tmp 25) 48 (by rfl) w.heap.size 30 inf (.agg #[.int .u64 0, .int .u64 0, .int .u64 0, .int .u64 0]) 4 32 Try.underlying48 hinf hz1 hz2 hz3 rfl (by omega) u3 k (xsTo el k) (by rfl) O2.out ⟨gn, 0, none⟩ 1 1 [.int .u64 (w0 (el k) : Nat), .int .u64 (w1 (el k) : Nat), .int .u64 (w2 (el k) : Nat), .int .u64 (w3 (el k) : Nat)] (by rfl) rfl (World.news_of_block (M2.out.get 0 rfl)) (by simp [Value.oneCell']) (by omega) (by simp only [maxLen]; omega) (by omega) hsz v2.heap.size rfl ?_
        intro g cap v3 ow3 gr at3 lt3
        simp only [Act.put, List.setIfInBounds_toArray, List.set_cons_succ, List.set_cons_zero]
        have M3 : Hid (Mem w.heap.size w v3 [(g5, .cells (ca 16 (dg (pTo el k))) 33), (g4, .cells (ca 16 (dg (sTo el k))) 33)]) := (M2.out.tail.grown gr (fun kk hk => ⟨(OL.out kk hk).1, Mem.ne_cons (Ne.symm (AP.out kk hk).2) (Mem.ne_cons (Ne.symm (AP.out kk hk).1) (fun i x h => by simp at h))⟩) : Mem w.heap.size w v3 [(g5, .cells (ca 16 (dg (pTo el k))) 33), (g4, .cells (ca 16 (dg (sTo el k))) 33)])
        have A3 : Hid (∀ g', (Value.slice (some ⟨g, 0, none⟩) (k + 1) cap).ownBlock = some g' → g' ≠ g4 ∧ g' ≠ g5) := (fun g' hg' => by
          have e : g = g' := by simpa [Value.ownBlock] using hg'
          subst e
          rcases at3 with h | h
          · exact AP.out g h
          · have l4 := lt_of_block (M2.out.get 2 rfl)
            have l5 := lt_of_block (M2.out.get 1 rfl)
            exact ⟨by omega, by omega⟩ : ∀ g', (Value.slice (some ⟨g, 0, none⟩) (k + 1) cap).ownBlock = some g' → g' ≠ g4 ∧ g' ≠ g5)
        have O3 : Hid (v3.ownsRow w.heap.size 30 4 (.slice (some ⟨g, 0, none⟩) (k + 1) cap) (k + 1) (xsTo el (k + 1))) := ow3
        clear ow3 gr at3 lt3 M2 O2 OL AP hgn hsz hinf hz1 hz2 hz3
        generalize Value.slice (some ⟨g, 0, none⟩) (k + 1) cap = ys at *
        refine wpList_value (v := ys) rfl (by simp [execOp, Act.eval]) ?_
        simp only [Act.put, List.setIfInBounds_toArray, List.set_cons_succ, List.set_cons_zero]
        have ell := HELL.out
        have e_s : (sTo el k + el k) % pN = sTo el (k + 1) := rfl
        have e_p : pTo el k * el k % pN = pTo el (k + 1) := rfl
        go_wp2_with fail
        refine region_list v3.heap.size (C := fun w' => Below v3.heap.size v3 w') [.inl (.agg (ca 16 (dg (sTo el k)))), .inl (.slice (some ⟨b, off, none⟩) n c), .inl (.int .i64 (k : Nat)), .inl (.pointer (some ⟨b, off + k * 32, none⟩)), .inl (.agg (cs8 (ks k))), .inl (.agg (ca 16 (dg (el k)))), .inl (.agg (ca 16 (dg (sTo el (k + 1)))))] [] (by kernel_rfl) (by kernel_rfl) ⟨rfl, rfl, rfl, Nat.le_refl _, fun _ _ => rfl⟩
          (fun w1 w2 h1 h2 => h1.trans (h2.mono h1.size)) (fun i h => by simp at h) ?_ ?_
        · refine ⟨?_, ?_, ?_, ?_, ?_, ?_, ?_, trivial⟩
          · intro s v hC hk_ hd
            have h : s.tmps[4]? = some (.pointer (some ⟨g4, 0, none⟩)) := hk_ 4 (by kernel_rfl)
            exact ok_load rfl rfl h ((M3.out.keep hC).get 1 rfl) Try.underlying33 rfl (by kernel_rfl) (ca_size _ _)
          · intro s v hC hk_ hd
            have h : s.tmps[0]? = some (.slice (some ⟨b, off, none⟩) n c) := hk_ 0 (by kernel_rfl)
            exact ok_value rfl (by simp [execOp, Act.eval, h])
          · intro s v hC hk_ hd
            have h : s.tmps[6]? = some (.int .i64 (k : Nat)) := hk_ 6 (by kernel_rfl)
            exact ok_value rfl (by simp [execOp, Act.eval, h])
          · intro s v hC hk_ hd
            have h0 : s.tmps[28]? = some (.slice (some ⟨b, off, none⟩) n c) := hd 1 (by kernel_rfl)
            have h1 : s.tmps[29]? = some (.int .i64 (k : Nat)) := hd 2 (by kernel_rfl)
            exact ok_value rfl (by simp [execOp, Act.eval, h0, h1, go_sem]; intro h; omega)
          · intro s v hC hk_ hd
            have h : s.tmps[30]? = some (.pointer (some ⟨b, off + k * 32, none⟩)) := hd 3 (by kernel_rfl)
            exact ok_value rfl (run_load_mid_op (t := 30) rfl h (range_keep HR.out hbl (M3.out.keep hC).below) Try.underlying23 rfl (by rw [S32]; kernel_rfl))
          · intro s v hC hk_ hd
            have h0 : s.tmps[31]? = some (.agg (cs8 (ks k))) := hd 4 (by kernel_rfl)
            exact ok_call rfl (by simp [Act.eval, h0, go_sem]) (hke ▸ rof_any (ks k) kk v)
          · intro s v hC hk_ hd
            have h0 : s.tmps[27]? = some (.agg (ca 16 (dg (sTo el k)))) := hd 0 (by kernel_rfl)
            have h1 : s.tmps[32]? = some (.agg (ca 16 (dg (el k)))) := hd 5 (by kernel_rfl)
            exact ok_call rfl (by simp [Act.eval, h0, h1, go_sem]) (radd_e (sTo el k) (el k) (sTo el (k + 1)) (sTo_lt k) (ell k) e_s v)
        · intro nb pw hC hf hne
          have pm := M3.out.keep hC
          have pB := hC
          clear hf hne hC
          simp [valsOf, valOf, putAll, Act.put]
          refine wpList_store_blk (b := g4) rfl rfl rfl rfl (pm.get 1 rfl) (by kernel_rfl) (ca_size _ _) (ca_size _ _) (ca_one _ _) ?_
          simp only [Act.put]
          generalize ph : World.setCells pw g4 0 _ = pv
          have M4 : Hid (Mem w.heap.size w pv [(g5, .cells (ca 16 (dg (pTo el k))) 33), (g4, .cells (ca 16 (dg (sTo el (k + 1)))) 33)]) := (by rw [← ph]; exact pm.store 1 (ca 16 (dg (sTo el (k + 1)))) rfl (by rw [ca_size, ca_size]) : Mem w.heap.size w pv [(g5, .cells (ca 16 (dg (pTo el k))) 33), (g4, .cells (ca 16 (dg (sTo el (k + 1)))) 33)])
          have O4 : Hid (pv.ownsRow w.heap.size 30 4 ys (k + 1) (xsTo el (k + 1))) := (by rw [← ph]; exact own_store (own_keep O3.out pB) (fun e => (A3.out _ e).1 rfl) : pv.ownsRow w.heap.size 30 4 ys (k + 1) (xsTo el (k + 1)))
          clear ph pm pB M3 O3
          go_wp2_with fail
          refine region_list pv.heap.size (C := fun w' => Below pv.heap.size pv w') [.inl (.agg (ca 16 (dg (pTo el k)))), .inl (.slice (some ⟨b, off, none⟩) n c), .inl (.int .i64 (k : Nat)), .inl (.pointer (some ⟨b, off + k * 32, none⟩)), .inl (.agg (cs8 (ks k))), .inl (.agg (ca 16 (dg (el k)))), .inl (.agg (ca 16 (dg (pTo el (k + 1)))))] [] (by kernel_rfl) (by kernel_rfl) ⟨rfl, rfl, rfl, Nat.le_refl _, fun _ _ => rfl⟩
            (fun w1 w2 h1 h2 => h1.trans (h2.mono h1.size)) (fun i h => by simp at h) ?_ ?_
          · refine ⟨?_, ?_, ?_, ?_, ?_, ?_, ?_, trivial⟩
            · intro s v hC hk_ hd
              have h : s.tmps[5]? = some (.pointer (some ⟨g5, 0, none⟩)) := hk_ 5 (by kernel_rfl)
              exact ok_load rfl rfl h ((M4.out.keep hC).get 0 rfl) Try.underlying33 rfl (by kernel_rfl) (ca_size _ _)
            · intro s v hC hk_ hd
              have h : s.tmps[0]? = some (.slice (some ⟨b, off, none⟩) n c) := hk_ 0 (by kernel_rfl)
              exact ok_value rfl (by simp [execOp, Act.eval, h])
            · intro s v hC hk_ hd
              have h : s.tmps[6]? = some (.int .i64 (k : Nat)) := hk_ 6 (by kernel_rfl)
              exact ok_value rfl (by simp [execOp, Act.eval, h])
            · intro s v hC hk_ hd
              have h0 : s.tmps[35]? = some (.slice (some ⟨b, off, none⟩) n c) := hd 1 (by kernel_rfl)
              have h1 : s.tmps[36]? = some (.int .i64 (k : Nat)) := hd 2 (by kernel_rfl)
              exact ok_value rfl (by simp [execOp, Act.eval, h0, h1, go_sem]; intro h; omega)
            · intro s v hC hk_ hd
              have h : s.tmps[37]? = some (.pointer (some ⟨b, off + k * 32, none⟩)) := hd 3 (by kernel_rfl)
              exact ok_value rfl (run_load_mid_op (t := 37) rfl h (range_keep HR.out hbl (M4.out.keep hC).below) Try.underlying23 rfl (by rw [S32]; kernel_rfl))
            · intro s v hC hk_ hd
              have h0 : s.tmps[38]? = some (.agg (cs8 (ks k))) := hd 4 (by kernel_rfl)
              exact ok_call rfl (by simp [Act.eval, h0, go_sem]) (hke ▸ rof_any (ks k) kk v)
            · intro s v hC hk_ hd
              have h0 : s.tmps[34]? = some (.agg (ca 16 (dg (pTo el k)))) := hd 0 (by kernel_rfl)
              have h1 : s.tmps[39]? = some (.agg (ca 16 (dg (el k)))) := hd 5 (by kernel_rfl)
              exact ok_call rfl (by simp [Act.eval, h0, h1, go_sem]) (rmul_e (pTo el k) (el k) (pTo el (k + 1)) (pTo_lt k) (ell k) e_p v)
          · intro nb qw hC hf hne
            have qm := M4.out.keep hC
            have qB := hC
            clear hf hne hC
            simp [valsOf, valOf, putAll, Act.put]
            refine wpList_store_blk (b := g5) rfl rfl rfl rfl (qm.get 0 rfl) (by kernel_rfl) (ca_size _ _) (ca_size _ _) (ca_one _ _) ?_
            simp only [Act.put]
            generalize qh : World.setCells qw g5 0 _ = qv
            have M5 : Hid (Mem w.heap.size w qv [(g5, .cells (ca 16 (dg (pTo el (k + 1)))) 33), (g4, .cells (ca 16 (dg (sTo el (k + 1)))) 33)]) := (by rw [← qh]; exact qm.store 0 (ca 16 (dg (pTo el (k + 1)))) rfl (by rw [ca_size, ca_size]) : Mem w.heap.size w qv [(g5, .cells (ca 16 (dg (pTo el (k + 1)))) 33), (g4, .cells (ca 16 (dg (sTo el (k + 1)))) 33)])
            have O5 : Hid (qv.ownsRow w.heap.size 30 4 ys (k + 1) (xsTo el (k + 1))) := (by rw [← qh]; exact own_store (own_keep O4.out qB) (fun e => (A3.out _ e).2 rfl) : qv.ownsRow w.heap.size 30 4 ys (k + 1) (xsTo el (k + 1)))
            clear qh qm qB M4 O4
            go_wp2_with fail
            go_roundw
            case rel => exact ⟨k + 1, by omega, int_eq (by omega), O5.out, A3.out, M5.out⟩
            case measure => simp [intOf]; omega
      · have ek : k = n := by omega
        subst ek
        have ell := HELL.out
        go_wp2_with fail
        refine region_list wr.heap.size (C := fun w' => Below wr.heap.size wr w') [.inl u3, .inl (E4 (sTo el k)), .inl (.agg (cs8 (keyL (sTo el k)))), .inl (.agg (ca 16 (dg (sTo el k)))), .inl (.agg (cs8 (keyL (sTo el k)))), .inl (.bool true), .inl (.bool true), .inl u3, .inl (E4 (pTo el k)), .inl (.agg (cs8 (keyL (pTo el k)))), .inl (.agg (ca 16 (dg (pTo el k)))), .inl (.agg (cs8 (keyL (pTo el k)))), .inl (.bool true), .inl (.bool true), .inl (.bool true), .inl (.bool true), .inl (.bool true), .inl (.bool true)] [] (by kernel_rfl) (by kernel_rfl) ⟨rfl, rfl, rfl, Nat.le_refl _, fun _ _ => rfl⟩
          (fun w1 w2 h1 h2 => h1.trans (h2.mono h1.size)) (fun i h => by simp at h) ?_ ?_
        · refine ⟨?_, ?_, ?_, ?_, ?_, ?_, ?_, ?_, ?_, ?_, ?_, ?_, ?_, ?_, ?_, ?_, ?_, ?_, trivial⟩
          · intro s v hC hk_ hd
            have h : s.tmps[3]? = some u3 := hk_ 3 (by kernel_rfl)
            exact ok_value rfl (by simp [execOp, Act.eval, h])
          · intro s v hC hk_ hd
            have h0 : s.tmps[41]? = some u3 := hd 0 (by kernel_rfl)
            exact ok_call rfl (by simp [Act.eval, h0, go_sem]) (add_own ell hn (own_keep OW.out hC))
          · intro s v hC hk_ hd
            have h0 : s.tmps[42]? = some (E4 (sTo el k)) := hd 1 (by kernel_rfl)
            exact ok_call rfl (by simp [Act.eval, h0, go_sem]) (key_any (sTo el k) v)
          · intro s v hC hk_ hd
            have h : s.tmps[4]? = some (.pointer (some ⟨g4, 0, none⟩)) := hk_ 4 (by kernel_rfl)
            exact ok_load rfl rfl h ((HM.out.keep hC).get 1 rfl) Try.underlying33 rfl (by kernel_rfl) (ca_size _ _)
          · intro s v hC hk_ hd
            have h0 : s.tmps[44]? = some (.agg (ca 16 (dg (sTo el k)))) := hd 3 (by kernel_rfl)
            exact ok_call rfl (by simp [Act.eval, h0, go_sem]) (rkey_any (sTo el k) v)
          · intro s v hC hk_ hd
            have h0 : s.tmps[43]? = some (.agg (cs8 (keyL (sTo el k)))) := hd 2 (by kernel_rfl)
            have h1 : s.tmps[45]? = some (.agg (cs8 (keyL (sTo el k)))) := hd 4 (by kernel_rfl)
            exact ok_eql_cs8 (keyL (sTo el k)) (keyL (sTo el k)) true rfl rfl rfl (keyL_len _) (keyL_len _) (beq_self_eq_true _) h0 h1
          · intro s v hC hk_ hd
            have h : s.tmps[46]? = some (.bool true) := hd 5 (by kernel_rfl)
            exact ok_value rfl (by simp [execOp, Act.eval, h])
          · intro s v hC hk_ hd
            have h : s.tmps[3]? = some u3 := hk_ 3 (by kernel_rfl)
            exact ok_value (wanted_of rfl rfl (hd 6 (by kernel_rfl))) (by simp [execOp, Act.eval, h])
          · intro s v hC hk_ hd
            have h0 : s.tmps[48]? = some u3 := hd 7 (by kernel_rfl)
            exact ok_call (wanted_of rfl rfl (hd 6 (by kernel_rfl))) (by simp [Act.eval, h0, go_sem]) (mul_own ell hn (own_keep OW.out hC))
          · intro s v hC hk_ hd
            have h0 : s.tmps[49]? = some (E4 (pTo el k)) := hd 8 (by kernel_rfl)
            exact ok_call (wanted_of rfl rfl (hd 6 (by kernel_rfl))) (by simp [Act.eval, h0, go_sem]) (key_any (pTo el k) v)
          · intro s v hC hk_ hd
            have h : s.tmps[5]? = some (.pointer (some ⟨g5, 0, none⟩)) := hk_ 5 (by kernel_rfl)
            exact ok_load (wanted_of rfl rfl (hd 6 (by kernel_rfl))) rfl h ((HM.out.keep hC).get 0 rfl) Try.underlying33 rfl (by kernel_rfl) (ca_size _ _)
          · intro s v hC hk_ hd
            have h0 : s.tmps[51]? = some (.agg (ca 16 (dg (pTo el k)))) := hd 10 (by kernel_rfl)
            exact ok_call (wanted_of rfl rfl (hd 6 (by kernel_rfl))) (by simp [Act.eval, h0, go_sem]) (rkey_any (pTo el k) v)
          · intro s v hC hk_ hd
            have h0 : s.tmps[50]? = some (.agg (cs8 (keyL (pTo el k)))) := hd 9 (by kernel_rfl)
            have h1 : s.tmps[52]? = some (.agg (cs8 (keyL (pTo el k)))) := hd 11 (by kernel_rfl)
            exact ok_eql_cs8 (keyL (pTo el k)) (keyL (pTo el k)) true (wanted_of rfl rfl (hd 6 (by kernel_rfl))) rfl rfl (keyL_len _) (keyL_len _) (beq_self_eq_true _) h0 h1
          · intro s v hC hk_ hd
            have h0 : s.tmps[47]? = some (.bool true) := hd 6 (by kernel_rfl)
            have h1 : s.tmps[53]? = some (.bool true) := hd 12 (by kernel_rfl)
            exact ok_value rfl (by simp [execOp, Act.eval, h0, h1, go_sem])
          · intro s v hC hk_ hd
            have h : s.tmps[54]? = some (.bool true) := hd 13 (by kernel_rfl)
            exact ok_value rfl (by simp [execOp, Act.eval, h])
          · intro s v hC hk_ hd
            exact ok_call (wanted_of rfl rfl (hd 14 (by kernel_rfl))) (by simp [go_sem]) (wakes_any v)
          · intro s v hC hk_ hd
            have h0 : s.tmps[55]? = some (.bool true) := hd 14 (by kernel_rfl)
            have h1 : s.tmps[56]? = some (.bool true) := hd 15 (by kernel_rfl)
            exact ok_value rfl (by simp [execOp, Act.eval, h0, h1, go_sem])
          · intro s v hC hk_ hd
            have h : s.tmps[57]? = some (.bool true) := hd 16 (by kernel_rfl)
            exact ok_value rfl (by simp [execOp, Act.eval, h])
        · intro nb wB hC _ _
          simp [valsOf, valOf, putAll, Act.put]
          have B : Hid (Below w.heap.size w wB) := ((HM.out.keep hC).below : Below w.heap.size w wB)
          clear hC
          go_wp2_with fail
          go_ret
          exact ⟨rfl, B.out⟩
  · have hn' : (40 : Int) < (n : Int) := by omega
    clear ell
    go_enter Try.func4, Try.ntmps4
    go_wp2_with fail
    refine (wakes_any _).mono ?_
    rintro e u ⟨rfl, hb⟩
    go_wp2_with fail
    go_ret
    exact ⟨rfl, hb⟩
end Go.Proofs.Ytpgmaidbemndnaa
