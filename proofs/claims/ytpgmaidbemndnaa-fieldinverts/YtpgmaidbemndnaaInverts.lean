/- FieldInverts: the walk. -/
import Derived.Test.YtpgmaidbemndnaaW8
import Derived.Test.YtpgmaidbemndnaaInvNum
namespace Go.Proofs.Ytpgmaidbemndnaa
open Go.RowKit

set_option maxRecDepth 100000 in
set_option maxHeartbeats 8000000 in
theorem inverts_raw (c1 c2 : Array Value) (X Y I J : Nat) (hX : X < pN) (hY : Y < pN) (hI : I < pN) (hJ : J < pN) (s1 : c1.size = 32) (s2 : c2.size = 32) (H0 : X = 0 → I = 0) (HS0 : X ≠ 0 → (X * I % pN) = 1) (HS1 : X ≠ 0 → (invTo I 255) = X) (HS2 : X ≠ 0 → (invTo (X * Y % pN) 255) = (I * J % pN))
    (k1 : ∀ w, Calls Try.prog 8 #[.agg c1] w fun e w' => e = .returned (E4 X) ∧ Below w.heap.size w w')
    (k2 : ∀ w, Calls Try.prog 8 #[.agg c2] w fun e w' => e = .returned (E4 Y) ∧ Below w.heap.size w w')
    (k3 : ∀ w, Calls Try.prog 16 #[E4 X] w fun e w' => e = .returned (E4 I) ∧ Below w.heap.size w w')
    (k4 : ∀ w, Calls Try.prog 16 #[E4 Y] w fun e w' => e = .returned (E4 J) ∧ Below w.heap.size w w') (w : World) :
    Calls Try.prog 6 #[.agg c1, .agg c2] w fun e w' => e = .returned (.bool true) ∧ Below w.heap.size w w' := by
  have KI : Hid _ := k3
  have KJ : Hid _ := k4
  have HH0 : Hid _ := H0
  have HSS : Hid ((X ≠ 0 → (X * I % pN) = 1) ∧ (X ≠ 0 → (invTo I 255) = X) ∧ (X ≠ 0 → (invTo (X * Y % pN) 255) = (I * J % pN))) := ⟨HS0, HS1, HS2⟩
  clear k3 k4 H0 HS0 HS1 HS2
  have KX : Hid _ := k1
  have KY : Hid _ := k2
  have S1h : Hid _ := s1
  have S2h : Hid _ := s2
  clear k1 k2 s1 s2
  go_enter Try.func6, Try.ntmps6
  go_wp2_with fail
  generalize hW : (w.alloc (Obj.cells c1 23)).alloc (Obj.cells c2 23) = W
  have P1' : W.heap[w.heap.size]? = some (.cells c1 23) := by rw [← hW, heap_old _ _ (by simp)]; exact heap_new _ _
  have P2' : W.heap[w.heap.size + 1]? = some (.cells c2 23) := by rw [← hW]; exact heap_new' _ _ (by simp)
  have B0 : Below w.heap.size w W := by rw [← hW]; exact ((Below.refl _ _).alloc (Nat.le_refl _) _).alloc (by simp) _
  clear hW
  have P1 : ∀ {v : World}, Below W.heap.size W v → v.heap[w.heap.size]? = some (.cells c1 23) := fun hC => keep hC P1'
  have P2 : ∀ {v : World}, Below W.heap.size W v → v.heap[w.heap.size + 1]? = some (.cells c2 23) := fun hC => keep hC P2'
  refine region_list W.heap.size (C := fun w' => Below W.heap.size W w') [.inl (.agg c1), .inl (E4 X), .inl (.agg c2), .inl (E4 Y), .inr (.cells #[.int .u64 0, .int .u64 0, .int .u64 0, .int .u64 0] 30, fun b => .pointer (some ⟨b, 0, none⟩)), .inr (.cells #[.int .u64 0, .int .u64 0, .int .u64 0, .int .u64 0] 30, fun b => .pointer (some ⟨b, 0, none⟩))] [4, 5] (by kernel_rfl) (by kernel_rfl) ⟨rfl, rfl, rfl, Nat.le_refl _, fun _ _ => rfl⟩
    (fun w1 w2 h1 h2 => h1.trans (h2.mono h1.size)) (fun i h => by
      obtain rfl | rfl : i = 4 ∨ i = 5 := by simpa using h
      all_goals exact ⟨_, rfl⟩) ?_ ?_
  · refine ⟨?_, ?_, ?_, ?_, ?_, ?_, trivial⟩
    · intro s v hC hk hd
      have h : s.tmps[2]? = some (.pointer (some ⟨w.heap.size, 0, none⟩)) := hk 2 (by kernel_rfl)
      exact ok_load rfl rfl h (P1 hC) Try.underlying23 rfl (by kernel_rfl) S1h.out
    · intro s v hC hk hd
      have h0 : s.tmps[10]? = some (.agg c1) := hd 0 (by kernel_rfl)
      exact ok_call rfl (by simp [Act.eval, h0, go_sem]) (KX.out v)
    · intro s v hC hk hd
      have h : s.tmps[3]? = some (.pointer (some ⟨w.heap.size + 1, 0, none⟩)) := hk 3 (by kernel_rfl)
      exact ok_load rfl rfl h (P2 hC) Try.underlying23 rfl (by kernel_rfl) S2h.out
    · intro s v hC hk hd
      have h0 : s.tmps[12]? = some (.agg c2) := hd 2 (by kernel_rfl)
      exact ok_call rfl (by simp [Act.eval, h0, go_sem]) (KY.out v)
    · intro s v hC hk hd
      exact ok_alloc hC.size rfl (by simp [execOp, go_sem])
    · intro s v hC hk hd
      exact ok_alloc hC.size rfl (by simp [execOp, go_sem])
  · intro b wA hC hf hne
    have n1 : b 4 ≠ b 5 := hne 4 5 rfl rfl (by decide)
    obtain ⟨⟨l1, f1⟩, ⟨l2, f2⟩, _⟩ := hf
    simp only [Nat.zero_add, Nat.reduceAdd] at l1 l2 f1 f2
    have B1 : Below w.heap.size w wA := B0.trans (hC.mono B0.size)
    have hs0 := B0.size
    have R1' := P1 hC
    have R2' := P2 hC
    have l0 := lt_of_block P2'
    clear hne hC P1 P2 P1' P2' B0
    simp [valsOf, valOf, putAll, Act.put]
    generalize b 4 = g1 at *
    generalize b 5 = g2 at *
    refine wpList_store_blk (b := g1) rfl rfl rfl rfl f1 (by kernel_rfl) rfl rfl (by simp [Value.oneCell']) ?_
    refine wpList_store_blk (b := g2) rfl rfl rfl rfl ((heap_setCells_ne (Ne.symm n1) _ _ _).trans f2) (by kernel_rfl) rfl rfl (by simp [Value.oneCell']) ?_
    simp only [Act.put]
    generalize hV : World.setCells (World.setCells wA g1 0 _) g2 0 _ = V
    have Q1' : V.heap[g1]? = some (.cells #[.int .u64 (w0 X : Nat), .int .u64 (w1 X : Nat), .int .u64 (w2 X : Nat), .int .u64 (w3 X : Nat)] 30) := by rw [← hV]; exact (heap_setCells_ne n1 _ _ _).trans (heap_setCells_all _ f1 rfl)
    have Q2' : V.heap[g2]? = some (.cells #[.int .u64 (w0 Y : Nat), .int .u64 (w1 Y : Nat), .int .u64 (w2 Y : Nat), .int .u64 (w3 Y : Nat)] 30) := by rw [← hV]; exact heap_setCells_all _ ((heap_setCells_ne (Ne.symm n1) _ _ _).trans f2) rfl
    have R1 : Hid (V.heap[w.heap.size]? = some (.cells c1 23)) := by rw [← hV]; exact (heap_setCells_ne (by omega) _ _ _).trans ((heap_setCells_ne (by omega) _ _ _).trans R1')
    have R2 : Hid (V.heap[w.heap.size + 1]? = some (.cells c2 23)) := by rw [← hV]; exact (heap_setCells_ne (by omega) _ _ _).trans ((heap_setCells_ne (by omega) _ _ _).trans R2')
    have B0 : Below w.heap.size w V := by rw [← hV]; exact below_setCells (by omega) _ _ _ (below_setCells (by omega) _ _ _ B1)
    clear hV f1 f2 n1 l1 l2 hs0 B1 R1' R2' l0
    have BB : Hid _ := B0
    have QQ1 : Hid _ := Q1'
    have QQ2 : Hid _ := Q2'
    clear B0 Q1' Q2'
    go_wp2_with fail
    refine (num_any 1 (by decide) _).mono ?_
    rintro e u1 ⟨rfl, hb⟩
    have Q1 : Hid _ := keep hb QQ1.out
    have Q2 : Hid _ := keep hb QQ2.out
    have B1 : Hid (Below w.heap.size w u1) := BB.out.trans (hb.mono BB.out.size)
    clear hb QQ1 QQ2 BB R1 R2
    go_wp2_with fail
    refine (num_any 0 (by decide) _).mono ?_
    rintro e u2 ⟨rfl, hb⟩
    have T1 := keep hb Q1.out
    have T2 : Hid _ := keep hb Q2.out
    have B2 : Hid (Below w.heap.size w u2) := B1.out.trans (hb.mono B1.out.size)
    clear hb Q1 Q2 B1
    have hz1 := lt_of_block T1
    have hz2 := lt_of_block T2.out
    obtain ⟨p0, p1, p2, p3, f0, f1, f2, f3⟩ := cells4 T1
    have Q1 : Hid _ := T1
    clear T1
    go_wp2_with fail
    refine (KI.out _).mono ?_
    rintro e u3 ⟨rfl, hb⟩
    have T1 := keep hb (b := g1) (by rw [heap_old _ _ (by rw [size_alloc]; omega), heap_old _ _ hz1]; exact Q1.out)
    have U2 : Hid _ := keep hb (b := g2) (by rw [heap_old _ _ (by rw [size_alloc]; omega), heap_old _ _ hz2]; exact T2.out)
    have U3 := keep hb (b := u2.heap.size) (by rw [heap_old _ _ (by rw [size_alloc]; omega)]; exact heap_new _ _)
    have U4 := keep hb (b := u2.heap.size + 1) (heap_new' _ _ (by rw [size_alloc]))
    have B3 : Hid (Below w.heap.size w u3) := ((B2.out.alloc B2.out.size _).alloc (by rw [size_alloc]; have := B2.out.size; omega) _).trans (hb.mono (by rw [size_alloc, size_alloc]; have := B2.out.size; omega))
    clear hb p0 p1 p2 p3 f0 f1 f2 f3 Q1 T2 B2 hz1 hz2
    generalize u2.heap.size = g at *
    have hz1 := lt_of_block T1
    have hz2 := lt_of_block U2.out
    have hz3 := lt_of_block U3
    have hz4 := lt_of_block U4
    obtain ⟨p0, p1, p2, p3, _, _, _, _⟩ := cells4 T1
    obtain ⟨r0, r1, r2, r3, _, _, _, _⟩ := cells4 U4
    have U1 : Hid _ := T1
    have U3' : Hid _ := U3
    have U4' : Hid _ := U4
    clear T1 U3 U4
    go_wp2_with fail
    by_cases hX0 : X = 0
    · have hI0 : I = 0 := HH0.out hX0
      refine (same_eq X 0 hX (by decide) true (by simp [hX0]) _).mono ?_
      rintro e u4 ⟨rfl, hb⟩
      have V4 := keep hb (b := g + 1) (by rw [heap_old _ _ hz4]; exact U4'.out)
      have V5 := keep hb (b := u3.heap.size) (heap_new _ _)
      have B4 : Hid (Below w.heap.size w u4) := (B3.out.alloc B3.out.size _).trans (hb.mono (by rw [size_alloc]; have := B3.out.size; omega))
      clear hb p0 p1 p2 p3 r0 r1 r2 r3
      obtain ⟨p0, p1, p2, p3, _, _, _, _⟩ := cells4 V5
      obtain ⟨r0, r1, r2, r3, _, _, _, _⟩ := cells4 V4
      clear V4 V5 U1 U2 U3' U4' B3
      have HX0 : Hid _ := hX0
      have HI0 : Hid _ := hI0
      clear hX0 hI0
      go_wp2_with fail
      refine (same_eq I 0 hI (by decide) true (by rw [HI0.out]; rfl) _).mono ?_
      rintro e u5 ⟨rfl, hb⟩
      have B5 : Hid (Below w.heap.size w u5) := B4.out.trans (hb.mono B4.out.size)
      clear hb p0 p1 p2 p3 r0 r1 r2 r3 B4
      go_wp2_with fail
      refine (wakes_any _).mono ?_
      rintro e u6 ⟨rfl, hb⟩
      have B6 : Hid (Below w.heap.size w u6) := B5.out.trans (hb.mono B5.out.size)
      clear hb
      go_wp2_with fail
      go_ret
      exact ⟨rfl, B6.out⟩
    · obtain ⟨HS0, HS1, HS2⟩ := HSS.out
      replace HS0 := HS0 hX0
      replace HS1 := HS1 hX0
      replace HS2 := HS2 hX0
      refine (same_eq X 0 hX (by decide) false (by simpa using hX0) _).mono ?_
      rintro e V ⟨rfl, hb⟩
      have V1 := keep hb (b := g1) (by rw [heap_old _ _ hz1]; exact U1.out)
      have V2 := keep hb (b := g2) (by rw [heap_old _ _ hz2]; exact U2.out)
      have V3 := keep hb (b := g) (by rw [heap_old _ _ hz3]; exact U3'.out)
      have V5 := keep hb (b := u3.heap.size) (heap_new _ _)
      have B4 : Hid (Below w.heap.size w V) := (B3.out.alloc B3.out.size _).trans (hb.mono (by rw [size_alloc]; have := B3.out.size; omega))
      clear hb p0 p1 p2 p3 r0 r1 r2 r3 U1 U2 U3' U4' B3 hz1 hz2 hz3 hz4
      generalize u3.heap.size = q at *
      have Q1 : Hid _ := V1
      have Q2 : Hid _ := V2
      have Q3 : Hid _ := V3
      have Q5 : Hid _ := V5
      have HSS2 : Hid (((X * I % pN) = 1) ∧ ((invTo I 255) = X) ∧ ((invTo (X * Y % pN) 255) = (I * J % pN))) := ⟨HS0, HS1, HS2⟩
      clear V1 V2 V3 V5 hX0 HS0 HS1 HS2
      go_wp2_with fail
      obtain ⟨HS0, HS1, HS2⟩ := HSS2.out
      have A1 : ∀ {v : World}, Below V.heap.size V v → v.heap[g1]? = some (.cells #[.int .u64 (w0 X : Nat), .int .u64 (w1 X : Nat), .int .u64 (w2 X : Nat), .int .u64 (w3 X : Nat)] 30) := fun hC => keep hC Q1.out
      have A4 : ∀ {v : World}, Below V.heap.size V v → v.heap[g2]? = some (.cells #[.int .u64 (w0 Y : Nat), .int .u64 (w1 Y : Nat), .int .u64 (w2 Y : Nat), .int .u64 (w3 Y : Nat)] 30) := fun hC => keep hC Q2.out
      have A3 : ∀ {v : World}, Below V.heap.size V v → v.heap[g]? = some (.cells #[.int .u64 (w0 1 : Nat), .int .u64 (w1 1 : Nat), .int .u64 (w2 1 : Nat), .int .u64 (w3 1 : Nat)] 30) := fun hC => keep hC Q3.out
      have A2 : ∀ {v : World}, Below V.heap.size V v → v.heap[q]? = some (.cells #[.int .u64 (w0 I : Nat), .int .u64 (w1 I : Nat), .int .u64 (w2 I : Nat), .int .u64 (w3 I : Nat)] 30) := fun hC => keep hC Q5.out
      refine region_list V.heap.size (C := fun w' => Below V.heap.size V w') [.inl (E4 X), .inl (E4 I), .inr (.cells #[.int .u64 (w0 X : Nat), .int .u64 (w1 X : Nat), .int .u64 (w2 X : Nat), .int .u64 (w3 X : Nat), .int .u64 (w0 I : Nat), .int .u64 (w1 I : Nat), .int .u64 (w2 I : Nat), .int .u64 (w3 I : Nat)] 30, fun b => .slice (some ⟨b, 0, none⟩) 2 2), .inl (E4 (X * I % pN)), .inl (E4 1), .inl (.bool true), .inl (.bool true), .inl (E4 I), .inl (E4 (invTo I 255)), .inl (E4 X), .inl (.bool true), .inl (.bool true), .inl (.bool true), .inl (E4 X), .inl (E4 Y), .inr (.cells #[.int .u64 (w0 X : Nat), .int .u64 (w1 X : Nat), .int .u64 (w2 X : Nat), .int .u64 (w3 X : Nat), .int .u64 (w0 Y : Nat), .int .u64 (w1 Y : Nat), .int .u64 (w2 Y : Nat), .int .u64 (w3 Y : Nat)] 30, fun b => .slice (some ⟨b, 0, none⟩) 2 2), .inl (E4 (X * Y % pN)), .inl (E4 (invTo (X * Y % pN) 255)), .inl (E4 I), .inl (E4 Y), .inl (E4 J), .inr (.cells #[.int .u64 (w0 I : Nat), .int .u64 (w1 I : Nat), .int .u64 (w2 I : Nat), .int .u64 (w3 I : Nat), .int .u64 (w0 J : Nat), .int .u64 (w1 J : Nat), .int .u64 (w2 J : Nat), .int .u64 (w3 J : Nat)] 30, fun b => .slice (some ⟨b, 0, none⟩) 2 2), .inl (E4 (I * J % pN)), .inl (.bool true), .inl (.bool true), .inl (.bool true), .inl (.bool true), .inl (.bool true), .inl (.bool true)] [] (by kernel_rfl) (by kernel_rfl) ⟨rfl, rfl, rfl, Nat.le_refl _, fun _ _ => rfl⟩
        (fun w1 w2 h1 h2 => h1.trans (h2.mono h1.size)) (fun i h => by simp at h) ?_ ?_
      · refine ⟨?_, ?_, ?_, ?_, ?_, ?_, ?_, ?_, ?_, ?_, ?_, ?_, ?_, ?_, ?_, ?_, ?_, ?_, ?_, ?_, ?_, ?_, ?_, ?_, ?_, ?_, ?_, ?_, ?_, trivial⟩
        · intro s v hC hk hd
          have h : s.tmps[5]? = some (.pointer (some ⟨g1, 0, none⟩)) := hk 5 (by kernel_rfl)
          exact ok_load rfl rfl h (A1 hC) Try.underlying30 rfl (by kernel_rfl) rfl
        · intro s v hC hk hd
          have h : s.tmps[9]? = some (.pointer (some ⟨q, 0, none⟩)) := hk 9 (by kernel_rfl)
          exact ok_load rfl rfl h (A2 hC) Try.underlying30 rfl (by kernel_rfl) rfl
        · intro s v hC hk hd
          have h0 : s.tmps[27]? = some (E4 X) := hd 0 (by kernel_rfl)
          have h1 : s.tmps[28]? = some (E4 I) := hd 1 (by kernel_rfl)
          exact ok_new hC.size rfl (by simp [execOp, Act.eval, h0, h1, go_sem])
        · intro s v hC hk hd
          obtain ⟨h0b, h0, h0l, h0h⟩ := holds_new (s.tmps[29]?) v (.cells #[.int .u64 (w0 X : Nat), .int .u64 (w1 X : Nat), .int .u64 (w2 X : Nat), .int .u64 (w3 X : Nat), .int .u64 (w0 I : Nat), .int .u64 (w1 I : Nat), .int .u64 (w2 I : Nat), .int .u64 (w3 I : Nat)] 30) (fun b => .slice (some ⟨b, 0, none⟩) 2 2) (hd 2 (by kernel_rfl))
          exact ok_call rfl (by simp [Act.eval, h0, go_sem]) (mul2 X I hX hI v h0b h0h)
        · intro s v hC hk hd
          have h : s.tmps[7]? = some (.pointer (some ⟨g, 0, none⟩)) := hk 7 (by kernel_rfl)
          exact ok_load rfl rfl h (A3 hC) Try.underlying30 rfl (by kernel_rfl) rfl
        · intro s v hC hk hd
          have h0 : s.tmps[30]? = some (E4 (X * I % pN)) := hd 3 (by kernel_rfl)
          have h1 : s.tmps[31]? = some (E4 1) := hd 4 (by kernel_rfl)
          exact ok_call rfl (by simp [Act.eval, h0, h1, go_sem]) (same_eq (X * I % pN) 1 (Nat.mod_lt _ (by decide)) (by decide) true (beq_iff_eq.2 (HS0)) v)
        · intro s v hC hk hd
          have h : s.tmps[32]? = some (.bool true) := hd 5 (by kernel_rfl)
          exact ok_value rfl (by simp [execOp, Act.eval, h])
        · intro s v hC hk hd
          have h : s.tmps[9]? = some (.pointer (some ⟨q, 0, none⟩)) := hk 9 (by kernel_rfl)
          exact ok_load (wanted_of rfl rfl (hd 6 (by kernel_rfl))) rfl h (A2 hC) Try.underlying30 rfl (by kernel_rfl) rfl
        · intro s v hC hk hd
          have h0 : s.tmps[34]? = some (E4 I) := hd 7 (by kernel_rfl)
          exact ok_call (wanted_of rfl rfl (hd 6 (by kernel_rfl))) (by simp [Act.eval, h0, go_sem]) (inv_any I (Nat.lt_trans hI pN_top) v)
        · intro s v hC hk hd
          have h : s.tmps[5]? = some (.pointer (some ⟨g1, 0, none⟩)) := hk 5 (by kernel_rfl)
          exact ok_load (wanted_of rfl rfl (hd 6 (by kernel_rfl))) rfl h (A1 hC) Try.underlying30 rfl (by kernel_rfl) rfl
        · intro s v hC hk hd
          have h0 : s.tmps[35]? = some (E4 (invTo I 255)) := hd 8 (by kernel_rfl)
          have h1 : s.tmps[36]? = some (E4 X) := hd 9 (by kernel_rfl)
          exact ok_call (wanted_of rfl rfl (hd 6 (by kernel_rfl))) (by simp [Act.eval, h0, h1, go_sem]) (same_eq (invTo I 255) X (inv_lt _) hX true (beq_iff_eq.2 (HS1)) v)
        · intro s v hC hk hd
          have h0 : s.tmps[33]? = some (.bool true) := hd 6 (by kernel_rfl)
          have h1 : s.tmps[37]? = some (.bool true) := hd 10 (by kernel_rfl)
          exact ok_value rfl (by simp [execOp, Act.eval, h0, h1, go_sem])
        · intro s v hC hk hd
          have h : s.tmps[38]? = some (.bool true) := hd 11 (by kernel_rfl)
          exact ok_value rfl (by simp [execOp, Act.eval, h])
        · intro s v hC hk hd
          have h : s.tmps[5]? = some (.pointer (some ⟨g1, 0, none⟩)) := hk 5 (by kernel_rfl)
          exact ok_load (wanted_of rfl rfl (hd 12 (by kernel_rfl))) rfl h (A1 hC) Try.underlying30 rfl (by kernel_rfl) rfl
        · intro s v hC hk hd
          have h : s.tmps[6]? = some (.pointer (some ⟨g2, 0, none⟩)) := hk 6 (by kernel_rfl)
          exact ok_load (wanted_of rfl rfl (hd 12 (by kernel_rfl))) rfl h (A4 hC) Try.underlying30 rfl (by kernel_rfl) rfl
        · intro s v hC hk hd
          have h0 : s.tmps[40]? = some (E4 X) := hd 13 (by kernel_rfl)
          have h1 : s.tmps[41]? = some (E4 Y) := hd 14 (by kernel_rfl)
          exact ok_new hC.size (wanted_of rfl rfl (hd 12 (by kernel_rfl))) (by simp [execOp, Act.eval, h0, h1, go_sem])
        · intro s v hC hk hd
          obtain ⟨h0b, h0, h0l, h0h⟩ := holds_new (s.tmps[42]?) v (.cells #[.int .u64 (w0 X : Nat), .int .u64 (w1 X : Nat), .int .u64 (w2 X : Nat), .int .u64 (w3 X : Nat), .int .u64 (w0 Y : Nat), .int .u64 (w1 Y : Nat), .int .u64 (w2 Y : Nat), .int .u64 (w3 Y : Nat)] 30) (fun b => .slice (some ⟨b, 0, none⟩) 2 2) (hd 15 (by kernel_rfl))
          exact ok_call (wanted_of rfl rfl (hd 12 (by kernel_rfl))) (by simp [Act.eval, h0, go_sem]) (mul2 X Y hX hY v h0b h0h)
        · intro s v hC hk hd
          have h0 : s.tmps[43]? = some (E4 (X * Y % pN)) := hd 16 (by kernel_rfl)
          exact ok_call (wanted_of rfl rfl (hd 12 (by kernel_rfl))) (by simp [Act.eval, h0, go_sem]) (inv_any (X * Y % pN) (Nat.lt_trans (Nat.mod_lt _ (by decide)) pN_top) v)
        · intro s v hC hk hd
          have h : s.tmps[9]? = some (.pointer (some ⟨q, 0, none⟩)) := hk 9 (by kernel_rfl)
          exact ok_load (wanted_of rfl rfl (hd 12 (by kernel_rfl))) rfl h (A2 hC) Try.underlying30 rfl (by kernel_rfl) rfl
        · intro s v hC hk hd
          have h : s.tmps[6]? = some (.pointer (some ⟨g2, 0, none⟩)) := hk 6 (by kernel_rfl)
          exact ok_load (wanted_of rfl rfl (hd 12 (by kernel_rfl))) rfl h (A4 hC) Try.underlying30 rfl (by kernel_rfl) rfl
        · intro s v hC hk hd
          have h0 : s.tmps[46]? = some (E4 Y) := hd 19 (by kernel_rfl)
          exact ok_call (wanted_of rfl rfl (hd 12 (by kernel_rfl))) (by simp [Act.eval, h0, go_sem]) (KJ.out v)
        · intro s v hC hk hd
          have h0 : s.tmps[45]? = some (E4 I) := hd 18 (by kernel_rfl)
          have h1 : s.tmps[47]? = some (E4 J) := hd 20 (by kernel_rfl)
          exact ok_new hC.size (wanted_of rfl rfl (hd 12 (by kernel_rfl))) (by simp [execOp, Act.eval, h0, h1, go_sem])
        · intro s v hC hk hd
          obtain ⟨h0b, h0, h0l, h0h⟩ := holds_new (s.tmps[48]?) v (.cells #[.int .u64 (w0 I : Nat), .int .u64 (w1 I : Nat), .int .u64 (w2 I : Nat), .int .u64 (w3 I : Nat), .int .u64 (w0 J : Nat), .int .u64 (w1 J : Nat), .int .u64 (w2 J : Nat), .int .u64 (w3 J : Nat)] 30) (fun b => .slice (some ⟨b, 0, none⟩) 2 2) (hd 21 (by kernel_rfl))
          exact ok_call (wanted_of rfl rfl (hd 12 (by kernel_rfl))) (by simp [Act.eval, h0, go_sem]) (mul2 I J hI hJ v h0b h0h)
        · intro s v hC hk hd
          have h0 : s.tmps[44]? = some (E4 (invTo (X * Y % pN) 255)) := hd 17 (by kernel_rfl)
          have h1 : s.tmps[49]? = some (E4 (I * J % pN)) := hd 22 (by kernel_rfl)
          exact ok_call (wanted_of rfl rfl (hd 12 (by kernel_rfl))) (by simp [Act.eval, h0, h1, go_sem]) (same_eq (invTo (X * Y % pN) 255) (I * J % pN) (inv_lt _) (Nat.mod_lt _ (by decide)) true (beq_iff_eq.2 (HS2)) v)
        · intro s v hC hk hd
          have h0 : s.tmps[39]? = some (.bool true) := hd 12 (by kernel_rfl)
          have h1 : s.tmps[50]? = some (.bool true) := hd 23 (by kernel_rfl)
          exact ok_value rfl (by simp [execOp, Act.eval, h0, h1, go_sem])
        · intro s v hC hk hd
          have h : s.tmps[51]? = some (.bool true) := hd 24 (by kernel_rfl)
          exact ok_value rfl (by simp [execOp, Act.eval, h])
        · intro s v hC hk hd
          exact ok_call (wanted_of rfl rfl (hd 25 (by kernel_rfl))) (by simp [go_sem]) (wakes_any v)
        · intro s v hC hk hd
          have h0 : s.tmps[52]? = some (.bool true) := hd 25 (by kernel_rfl)
          have h1 : s.tmps[53]? = some (.bool true) := hd 26 (by kernel_rfl)
          exact ok_value rfl (by simp [execOp, Act.eval, h0, h1, go_sem])
        · intro s v hC hk hd
          have h : s.tmps[54]? = some (.bool true) := hd 27 (by kernel_rfl)
          exact ok_value rfl (by simp [execOp, Act.eval, h])
      · intro b wB hC _ _
        simp [valsOf, valOf, putAll, Act.put]
        have B : Hid (Below w.heap.size w wB) := B4.out.trans (hC.mono B4.out.size)
        clear hC A1 A2 A3 A4 HS0 HS1 HS2
        go_wp2_with fail
        go_ret
        exact ⟨rfl, B.out⟩
end Go.Proofs.Ytpgmaidbemndnaa
