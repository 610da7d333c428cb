/- FieldBytes: the walk. -/
import Derived.Test.YtpgmaidbemndnaaW8
import Derived.Test.YtpgmaidbemndnaaByteNum
import Derived.Deep.Cut
namespace Go.Proofs.Ytpgmaidbemndnaa
open Go.RowKit

theorem dec_cast (a b : Nat) : decide (((a : Nat) : Int) < ((b : Nat) : Int)) = decide (a < b) := by rw [decide_eq_decide]; exact Int.ofNat_lt

theorem zeroE4 : (.agg #[.int .u64 0, .int .u64 0, .int .u64 0, .int .u64 0] : Value) = E4 0 := rfl

set_option maxRecDepth 100000 in
set_option maxHeartbeats 8000000 in
theorem bytes_raw (c1 c2 ck cy : Array Value) (X Y : Nat) (v31 : Int) (r : Bool) (hX : X < pN) (hY : Y < pN) (s1 : c1.size = 32) (s2 : c2.size = 32) (o1 : c1.all (·.oneCell') = true) (h31 : c1[31]? = some (.int .u8 v31))
    (hck : ck = cs8 (keyL X)) (hcy : cy = cs8 (keyL Y)) (hr : (X == Y) = r) (hk : (((keyL X).map fun (n : Nat) => (n : Int)) == ((keyL Y).map fun (n : Nat) => (n : Int))) = r)
    (k1 : ∀ w, Calls Try.prog 8 #[.agg c1] w fun e w' => e = .returned (E4 X) ∧ Below w.heap.size w w')
    (k2 : ∀ w, Calls Try.prog 8 #[.agg c2] w fun e w' => e = .returned (E4 Y) ∧ Below w.heap.size w w')
    (k5 : ∀ w, Calls Try.prog 10 #[E4 X] w fun e w' => e = .returned (.agg ck) ∧ Below w.heap.size w w')
    (k6 : ∀ w, Calls Try.prog 8 #[.agg ck] w fun e w' => e = .returned (E4 X) ∧ Below w.heap.size w w')
    (k7 : ∀ w, Calls Try.prog 8 #[.agg (c1.setIfInBounds 31 (.int .u8 (bits .xor .u8 v31 128)))] w fun e w' => e = .returned (E4 X) ∧ Below w.heap.size w w')
    (k8 : ∀ w, Calls Try.prog 10 #[E4 Y] w fun e w' => e = .returned (.agg cy) ∧ Below w.heap.size w w') (w : World) :
    Calls Try.prog 7 #[.agg c1, .agg c2] w fun e w' => e = .returned (.bool true) ∧ Below w.heap.size w w' := by
  have K5 : Hid _ := k5
  have K6 : Hid _ := k6
  have K7' : Hid _ := k7
  have K8 : Hid _ := k8
  have HR : Hid _ := hr
  have HK : Hid _ := hk
  have O1 : Hid _ := o1
  have H31 : Hid _ := h31
  have CK : Hid (ck = intCells .u8 ((keyL X).map fun (n : Nat) => (n : Int))) := by rw [hck]; exact cs8_ints _
  have CY : Hid (cy = intCells .u8 ((keyL Y).map fun (n : Nat) => (n : Int))) := by rw [hcy]; exact cs8_ints _
  have SK : Hid (ck.size = 32) := (by rw [hck]; simp [cs8, keyL_len] : ck.size = 32)
  have OK : Hid (ck.all (·.oneCell') = true) := by rw [hck]; exact cs8_one _
  have KB : Hid (∀ j, j < 32 → ck[j]? = some (.int .u8 (kb X j : Nat))) := fun j hj => by rw [hck, cs8_get _ _ (by rw [keyL_len]; exact hj), keyL_get X j hj]
  have TB : Hid _ := top_byte X hX
  have BP : Hid _ := below_prime X hX
  clear k5 k6 k7 k8 hr hk o1 h31 hck hcy
  have KX : Hid _ := k1
  have KY : Hid _ := k2
  have S1h : Hid _ := s1
  have S2h : Hid _ := s2
  clear k1 k2 s1 s2
  go_enter Try.func7, Try.ntmps7
  go_wp2_with fail
  generalize hW : (w.alloc (Obj.cells c1 23)).alloc (Obj.cells c2 23) = W
  have P1' : W.heap[w.heap.size]? = some (.cells c1 23) := by rw [← hW, heap_old _ _ (by simp)]; exact heap_new _ _
  have P2' : W.heap[w.heap.size + 1]? = some (.cells c2 23) := by rw [← hW]; exact heap_new' _ _ (by simp)
  have B0 : Below w.heap.size w W := by rw [← hW]; exact ((Below.refl _ _).alloc (Nat.le_refl _) _).alloc (by simp) _
  clear hW
  have P1 : ∀ {v : World}, Below W.heap.size W v → v.heap[w.heap.size]? = some (.cells c1 23) := fun hC => keep hC P1'
  have P2 : ∀ {v : World}, Below W.heap.size W v → v.heap[w.heap.size + 1]? = some (.cells c2 23) := fun hC => keep hC P2'
  refine region_list W.heap.size (C := fun w' => Below W.heap.size W w') [.inl (.agg c1), .inl (E4 X), .inl (.agg c2), .inl (E4 Y), .inr (.cells #[.int .u64 0, .int .u64 0, .int .u64 0, .int .u64 0] 30, fun b => .pointer (some ⟨b, 0, none⟩)), .inr (.cells #[.int .u64 0, .int .u64 0, .int .u64 0, .int .u64 0] 30, fun b => .pointer (some ⟨b, 0, none⟩))] [4, 5] (by kernel_rfl) (by kernel_rfl) ⟨rfl, rfl, rfl, Nat.le_refl _, fun _ _ => rfl⟩
    (fun w1 w2 h1 h2 => h1.trans (h2.mono h1.size)) (fun i h => by
      obtain rfl | rfl : i = 4 ∨ i = 5 := by simpa using h
      all_goals exact ⟨_, rfl⟩) ?_ ?_
  · refine ⟨?_, ?_, ?_, ?_, ?_, ?_, trivial⟩
    · intro s v hC hk hd
      have h : s.tmps[2]? = some (.pointer (some ⟨w.heap.size, 0, none⟩)) := hk 2 (by kernel_rfl)
      exact ok_load rfl rfl h (P1 hC) Try.underlying23 rfl (by kernel_rfl) S1h.out
    · intro s v hC hk hd
      have h0 : s.tmps[11]? = some (.agg c1) := hd 0 (by kernel_rfl)
      exact ok_call rfl (by simp [Act.eval, h0, go_sem]) (KX.out v)
    · intro s v hC hk hd
      have h : s.tmps[3]? = some (.pointer (some ⟨w.heap.size + 1, 0, none⟩)) := hk 3 (by kernel_rfl)
      exact ok_load rfl rfl h (P2 hC) Try.underlying23 rfl (by kernel_rfl) S2h.out
    · intro s v hC hk hd
      have h0 : s.tmps[13]? = some (.agg c2) := hd 2 (by kernel_rfl)
      exact ok_call rfl (by simp [Act.eval, h0, go_sem]) (KY.out v)
    · intro s v hC hk hd
      exact ok_alloc hC.size rfl (by simp [execOp, go_sem])
    · intro s v hC hk hd
      exact ok_alloc hC.size rfl (by simp [execOp, go_sem])
  · intro b wA hC hf hne
    have n1 : b 4 ≠ b 5 := hne 4 5 rfl rfl (by decide)
    obtain ⟨⟨l1, f1⟩, ⟨l2, f2⟩, _⟩ := hf
    simp only [Nat.zero_add, Nat.reduceAdd] at l1 l2 f1 f2
    have B1 : Below w.heap.size w wA := B0.trans (hC.mono B0.size)
    have hs0 := B0.size
    have R1' := P1 hC
    have R2' := P2 hC
    have l0 := lt_of_block P2'
    clear hne hC P1 P2 P1' P2' B0
    simp [valsOf, valOf, putAll, Act.put]
    generalize b 4 = g1 at *
    generalize b 5 = g2 at *
    refine wpList_store_blk (b := g1) rfl rfl rfl rfl f1 (by kernel_rfl) rfl rfl (by simp [Value.oneCell']) ?_
    refine wpList_store_blk (b := g2) rfl rfl rfl rfl ((heap_setCells_ne (Ne.symm n1) _ _ _).trans f2) (by kernel_rfl) rfl rfl (by simp [Value.oneCell']) ?_
    simp only [Act.put]
    generalize hV : World.setCells (World.setCells wA g1 0 _) g2 0 _ = V
    have Q1' : V.heap[g1]? = some (.cells #[.int .u64 (w0 X : Nat), .int .u64 (w1 X : Nat), .int .u64 (w2 X : Nat), .int .u64 (w3 X : Nat)] 30) := by rw [← hV]; exact (heap_setCells_ne n1 _ _ _).trans (heap_setCells_all _ f1 rfl)
    have Q2' : V.heap[g2]? = some (.cells #[.int .u64 (w0 Y : Nat), .int .u64 (w1 Y : Nat), .int .u64 (w2 Y : Nat), .int .u64 (w3 Y : Nat)] 30) := by rw [← hV]; exact heap_setCells_all _ ((heap_setCells_ne (Ne.symm n1) _ _ _).trans f2) rfl
    have R1 : Hid (V.heap[w.heap.size]? = some (.cells c1 23)) := by rw [← hV]; exact (heap_setCells_ne (by omega) _ _ _).trans ((heap_setCells_ne (by omega) _ _ _).trans R1')
    have R2 : Hid (V.heap[w.heap.size + 1]? = some (.cells c2 23)) := by rw [← hV]; exact (heap_setCells_ne (by omega) _ _ _).trans ((heap_setCells_ne (by omega) _ _ _).trans R2')
    have B0 : Below w.heap.size w V := by rw [← hV]; exact below_setCells (by omega) _ _ _ (below_setCells (by omega) _ _ _ B1)
    clear hV f1 f2 n1 l1 l2 hs0 B1 R1' R2' l0
    have BB : Hid _ := B0
    have QQ1 : Hid _ := Q1'
    have QQ2 : Hid _ := Q2'
    clear B0 Q1' Q2'
    obtain ⟨p0, p1, p2, p3, _, _, _, _⟩ := cells4 QQ1.out
    go_wp2_with fail
    refine (K5.out _).mono ?_
    rintro e u1 ⟨rfl, hb⟩
    have Q1 : Hid _ := keep hb QQ1.out
    have Q2 : Hid _ := keep hb QQ2.out
    have Q3 : Hid _ := keep hb R1.out
    have B1 : Hid (Below w.heap.size w u1) := BB.out.trans (hb.mono BB.out.size)
    clear hb QQ1 QQ2 BB R1 R2 p0 p1 p2 p3
    go_upto_region 3 with (refine wpList_store_blk rfl rfl rfl rfl (heap_new _ _) (by kernel_rfl) rfl SK.out OK.out ?_)
    simp only [Act.put]
    generalize hV1 : World.setCells (u1.alloc _) u1.heap.size 0 ck.toList = V1
    have T0 : V1.heap[u1.heap.size]? = some (.cells ck 23) := by rw [← hV1]; exact heap_setCells_all ck (heap_new _ _) (by rw [SK.out]; rfl)
    have T1 : Hid (V1.heap[g1]? = some (.cells #[.int .u64 (w0 X : Nat), .int .u64 (w1 X : Nat), .int .u64 (w2 X : Nat), .int .u64 (w3 X : Nat)] 30)) := by rw [← hV1]; exact (heap_setCells_ne (Nat.ne_of_lt (lt_of_block Q1.out)) _ _ _).trans ((heap_old _ _ (lt_of_block Q1.out)).trans Q1.out)
    have T2 : Hid (V1.heap[g2]? = some (.cells #[.int .u64 (w0 Y : Nat), .int .u64 (w1 Y : Nat), .int .u64 (w2 Y : Nat), .int .u64 (w3 Y : Nat)] 30)) := by rw [← hV1]; exact (heap_setCells_ne (Nat.ne_of_lt (lt_of_block Q2.out)) _ _ _).trans ((heap_old _ _ (lt_of_block Q2.out)).trans Q2.out)
    have T3 : Hid (V1.heap[w.heap.size]? = some (.cells c1 23)) := by rw [← hV1]; exact (heap_setCells_ne (Nat.ne_of_lt (lt_of_block Q3.out)) _ _ _).trans ((heap_old _ _ (lt_of_block Q3.out)).trans Q3.out)
    have B2 : Hid (Below w.heap.size w V1) := by rw [← hV1]; exact below_setCells B1.out.size _ _ _ (B1.out.alloc B1.out.size _)
    clear hV1 B1 Q1 Q2 Q3
    generalize u1.heap.size = n1 at *
    have T0' : Hid _ := T0
    clear T0
    go_upto_region 4 with (first | (refine wpList_load_blk (b := w.heap.size) rfl rfl rfl T3.out Try.underlying23 rfl (by kernel_rfl) S1h.out ?_) | (refine wpList_store_blk rfl rfl rfl rfl (heap_new _ _) (by kernel_rfl) rfl S1h.out O1.out ?_))
    simp only [Act.put]
    generalize hV2 : World.setCells (V1.alloc _) V1.heap.size 0 c1.toList = V2
    have U4 : V2.heap[V1.heap.size]? = some (.cells c1 23) := by rw [← hV2]; exact heap_setCells_all c1 (heap_new _ _) (by rw [S1h.out]; rfl)
    have U0 : Hid (V2.heap[n1]? = some (.cells ck 23)) := by rw [← hV2]; exact (heap_setCells_ne (Nat.ne_of_lt (lt_of_block T0'.out)) _ _ _).trans ((heap_old _ _ (lt_of_block T0'.out)).trans T0'.out)
    have U1 : Hid (V2.heap[g1]? = some (.cells #[.int .u64 (w0 X : Nat), .int .u64 (w1 X : Nat), .int .u64 (w2 X : Nat), .int .u64 (w3 X : Nat)] 30)) := by rw [← hV2]; exact (heap_setCells_ne (Nat.ne_of_lt (lt_of_block T1.out)) _ _ _).trans ((heap_old _ _ (lt_of_block T1.out)).trans T1.out)
    have U2 : Hid (V2.heap[g2]? = some (.cells #[.int .u64 (w0 Y : Nat), .int .u64 (w1 Y : Nat), .int .u64 (w2 Y : Nat), .int .u64 (w3 Y : Nat)] 30)) := by rw [← hV2]; exact (heap_setCells_ne (Nat.ne_of_lt (lt_of_block T2.out)) _ _ _).trans ((heap_old _ _ (lt_of_block T2.out)).trans T2.out)
    have B3 : Hid (Below w.heap.size w V2) := by rw [← hV2]; exact below_setCells B2.out.size _ _ _ (B2.out.alloc B2.out.size _)
    have m0 : Hid (n1 ≠ V1.heap.size) := Nat.ne_of_lt (lt_of_block T0'.out)
    have m1 : Hid (g1 ≠ V1.heap.size) := Nat.ne_of_lt (lt_of_block T1.out)
    have m2 : Hid (g2 ≠ V1.heap.size) := Nat.ne_of_lt (lt_of_block T2.out)
    have m3 : Hid (w.heap.size ≤ V1.heap.size) := B2.out.size
    clear hV2 B2 T0' T1 T2 T3
    generalize V1.heap.size = n2 at *
    have q31 := (cell_of U4 31).trans H31.out
    have f31 := frozen_of U4 31
    have U4' : Hid _ := U4
    clear U4
    go_upto_region 5 with fail
    generalize hV : V2.setCell _ _ = V
    have W4 : Hid (V.heap[n2]? = some (.cells (c1.setIfInBounds 31 (.int .u8 (bits .xor .u8 v31 128))) 23)) := by rw [← hV]; exact heap_set U4'.out 31 _
    have W0 : Hid (V.heap[n1]? = some (.cells ck 23)) := by rw [← hV]; exact (heap_set_ne _ _ m0.out).trans U0.out
    have W1 : Hid (V.heap[g1]? = some (.cells #[.int .u64 (w0 X : Nat), .int .u64 (w1 X : Nat), .int .u64 (w2 X : Nat), .int .u64 (w3 X : Nat)] 30)) := by rw [← hV]; exact (heap_set_ne _ _ m1.out).trans U1.out
    have W2 : Hid (V.heap[g2]? = some (.cells #[.int .u64 (w0 Y : Nat), .int .u64 (w1 Y : Nat), .int .u64 (w2 Y : Nat), .int .u64 (w3 Y : Nat)] 30)) := by rw [← hV]; exact (heap_set_ne _ _ m2.out).trans U2.out
    have B4 : Hid (Below w.heap.size w V) := by rw [← hV]; exact B3.out.setCell m3.out _
    clear hV B3 U0 U1 U2 U4' q31 f31 m0 m1 m2 m3
    have ST : Hid ((c1.setIfInBounds 31 (.int .u8 (bits .xor .u8 v31 128))).size = 32) := (by rw [Array.size_setIfInBounds]; exact S1h.out : (c1.setIfInBounds 31 (.int .u8 (bits .xor .u8 v31 128))).size = 32)
    generalize c1.setIfInBounds 31 (.int .u8 (bits .xor .u8 v31 128)) = ct at *
    have K7 : Hid _ := K7'.out
    clear K7'
    have q31 := (cell_of W0.out 31).trans (KB.out 31 (by omega))
    have q0 := (cell_of W0.out 0).trans (KB.out 0 (by omega))
    have D : Hid (belowTo X 0 = (decide (kb X 31 < 127) || decide (kb X 0 < 237))) := rfl
    cases j127 : decide (kb X 31 < 127)
    all_goals cases j237 : decide (kb X 0 < 237)
    all_goals
      have i127 := (dec_cast (kb X 31) 127).trans j127
      have i237 := (dec_cast (kb X 0) 237).trans j237
      simp only [Int.cast_ofNat_Int] at i127 i237
      have I127 : Hid _ := j127
      have I237 : Hid _ := j237
      clear j127 j237
    all_goals go_wp2_with fail
    all_goals
      go_loop [9, 10] (fun b i => ∃ k : Nat, k ≤ 30 ∧ i = .int .i64 ((k : Int) + 1) ∧ b = .bool (belowTo X k)) (fun _ i => 31 - (intOf i).toNat)
      case atStart => exact ⟨0, by omega, rfl, by rw [D.out, I127.out, I237.out]; rfl⟩
      case round =>
        obtain ⟨k, hk, rfl, rfl⟩ := hrel
        by_cases hlt : k < 30
        · have qk := (cell_of W0.out (k + 1)).trans (KB.out (k + 1) (by omega))
          have hs : Hid (belowTo X (k + 1) = (belowTo X k || decide (kb X (k + 1) < 255))) := rfl
          generalize kb X (k + 1) = y at *
          generalize belowTo X k = bk at *
          clear q31 q0 i127 i237
          cases bk with
          | true =>
            go_wp2_with fail
            go_round
            case rel => exact ⟨k + 1, by omega, by go_num, by rw [hs.out]; rfl⟩
            case measure => simp [intOf]; omega
          | false =>
            cases j255 : decide (y < 255)
            all_goals
              have i255 := (dec_cast y 255).trans j255
              simp only [Int.cast_ofNat_Int] at i255
              have I255 : Hid _ := j255
              clear j255
              go_wp2_with fail
              go_round
              case rel => exact ⟨k + 1, by omega, by go_num, by rw [hs.out, I255.out]; rfl⟩
              case measure => simp [intOf]; omega
        · have e : k = 30 := by omega
          subst e
          rw [BP.out]
          clear q31 q0 i127 i237 hk hlt
          go_wp2_with fail
          have A1 : ∀ {v : World}, Below V.heap.size V v → v.heap[g1]? = some (.cells #[.int .u64 (w0 X : Nat), .int .u64 (w1 X : Nat), .int .u64 (w2 X : Nat), .int .u64 (w3 X : Nat)] 30) := fun hC => keep hC W1.out
          have A2 : ∀ {v : World}, Below V.heap.size V v → v.heap[g2]? = some (.cells #[.int .u64 (w0 Y : Nat), .int .u64 (w1 Y : Nat), .int .u64 (w2 Y : Nat), .int .u64 (w3 Y : Nat)] 30) := fun hC => keep hC W2.out
          have A3 : ∀ {v : World}, Below V.heap.size V v → v.heap[n1]? = some (.cells ck 23) := fun hC => keep hC W0.out
          have A4 : ∀ {v : World}, Below V.heap.size V v → v.heap[n2]? = some (.cells ct 23) := fun hC => keep hC W4.out
          refine region_list V.heap.size (C := fun w' => Below V.heap.size V w') [.inl (.pointer (some ⟨n1, 31, none⟩)), .inl (.int .u8 (kb X 31 : Nat)), .inl (.bool true), .inl (.bool true), .inl (.bool true), .inl (.bool true), .inl (.bool true), .inl (.agg ck), .inl (E4 X), .inl (E4 X), .inl (.bool true), .inl (.bool true), .inl (.bool true), .inl (.agg ct), .inl (E4 X), .inl (E4 X), .inl (.bool true), .inl (.bool true), .inl (.bool true), .inl (E4 X), .inl (E4 Y), .inl (.bool r), .inl (.agg ck), .inl (E4 Y), .inl (.agg cy), .inl (.bool r), .inl (.bool true), .inl (.bool true), .inl (.bool true), .inl (.agg #[.int .u64 0, .int .u64 0, .int .u64 0, .int .u64 0]), .inl (E4 0), .inl (.bool true), .inl (.bool true), .inl (.bool true), .inl (.bool true), .inl (.bool true), .inl (.bool true)] [] (by kernel_rfl) (by kernel_rfl) ⟨rfl, rfl, rfl, Nat.le_refl _, fun _ _ => rfl⟩
            (fun w1 w2 h1 h2 => h1.trans (h2.mono h1.size)) (fun i h => by simp at h) ?_ ?_
          · refine ⟨?_, ?_, ?_, ?_, ?_, ?_, ?_, ?_, ?_, ?_, ?_, ?_, ?_, ?_, ?_, ?_, ?_, ?_, ?_, ?_, ?_, ?_, ?_, ?_, ?_, ?_, ?_, ?_, ?_, ?_, ?_, ?_, ?_, ?_, ?_, ?_, ?_, trivial⟩
            · intro s v hC hk hd
              have h : s.tmps[7]? = some (.pointer (some ⟨n1, 0, none⟩)) := hk 7 (by kernel_rfl)
              exact ok_value rfl (by simp [execOp, Act.eval, h, go_sem])
            · intro s v hC hk hd
              have h : s.tmps[41]? = some (.pointer (some ⟨n1, 31, none⟩)) := hd 0 (by kernel_rfl)
              have hc := (cell_of (A3 hC) 31).trans (KB.out 31 (by omega))
              exact ok_value rfl (by simp [execOp, Act.eval, h, go_sem, hc])
            · intro s v hC hk hd
              have h : s.tmps[42]? = some (.int .u8 (kb X 31 : Nat)) := hd 1 (by kernel_rfl)
              have hl : ((kb X 31 : Nat) : Int) < 128 := by have := TB.out; omega
              exact ok_value rfl (by simp [execOp, Act.eval, h, go_sem, hl])
            · intro s v hC hk hd
              have h : s.tmps[43]? = some (.bool true) := hd 2 (by kernel_rfl)
              exact ok_value rfl (by simp [execOp, Act.eval, h])
            · intro s v hC hk hd
              have h : s.tmps[9]? = some (.bool true) := hk 9 (by kernel_rfl)
              exact ok_value (wanted_of rfl rfl (hd 3 (by kernel_rfl))) (by simp [execOp, Act.eval, h])
            · intro s v hC hk hd
              have h0 : s.tmps[44]? = some (.bool true) := hd 3 (by kernel_rfl)
              have h1 : s.tmps[45]? = some (.bool true) := hd 4 (by kernel_rfl)
              exact ok_value rfl (by simp [execOp, Act.eval, h0, h1, go_sem])
            · intro s v hC hk hd
              have h : s.tmps[46]? = some (.bool true) := hd 5 (by kernel_rfl)
              exact ok_value rfl (by simp [execOp, Act.eval, h])
            · intro s v hC hk hd
              have h : s.tmps[7]? = some (.pointer (some ⟨n1, 0, none⟩)) := hk 7 (by kernel_rfl)
              exact ok_load (wanted_of rfl rfl (hd 6 (by kernel_rfl))) rfl h (A3 hC) Try.underlying23 rfl (by kernel_rfl) SK.out
            · intro s v hC hk hd
              have h0 : s.tmps[48]? = some (.agg ck) := hd 7 (by kernel_rfl)
              exact ok_call (wanted_of rfl rfl (hd 6 (by kernel_rfl))) (by simp [Act.eval, h0, go_sem]) (K6.out v)
            · intro s v hC hk hd
              have h : s.tmps[5]? = some (.pointer (some ⟨g1, 0, none⟩)) := hk 5 (by kernel_rfl)
              exact ok_load (wanted_of rfl rfl (hd 6 (by kernel_rfl))) rfl h (A1 hC) Try.underlying30 rfl (by kernel_rfl) rfl
            · intro s v hC hk hd
              have h0 : s.tmps[49]? = some (E4 X) := hd 8 (by kernel_rfl)
              have h1 : s.tmps[50]? = some (E4 X) := hd 9 (by kernel_rfl)
              exact ok_call (wanted_of rfl rfl (hd 6 (by kernel_rfl))) (by simp [Act.eval, h0, h1, go_sem]) (same_eq X X hX hX true (by simp) v)
            · intro s v hC hk hd
              have h0 : s.tmps[47]? = some (.bool true) := hd 6 (by kernel_rfl)
              have h1 : s.tmps[51]? = some (.bool true) := hd 10 (by kernel_rfl)
              exact ok_value rfl (by simp [execOp, Act.eval, h0, h1, go_sem])
            · intro s v hC hk hd
              have h : s.tmps[52]? = some (.bool true) := hd 11 (by kernel_rfl)
              exact ok_value rfl (by simp [execOp, Act.eval, h])
            · intro s v hC hk hd
              have h : s.tmps[8]? = some (.pointer (some ⟨n2, 0, none⟩)) := hk 8 (by kernel_rfl)
              exact ok_load (wanted_of rfl rfl (hd 12 (by kernel_rfl))) rfl h (A4 hC) Try.underlying23 rfl (by kernel_rfl) ST.out
            · intro s v hC hk hd
              have h0 : s.tmps[54]? = some (.agg ct) := hd 13 (by kernel_rfl)
              exact ok_call (wanted_of rfl rfl (hd 12 (by kernel_rfl))) (by simp [Act.eval, h0, go_sem]) (K7.out v)
            · intro s v hC hk hd
              have h : s.tmps[5]? = some (.pointer (some ⟨g1, 0, none⟩)) := hk 5 (by kernel_rfl)
              exact ok_load (wanted_of rfl rfl (hd 12 (by kernel_rfl))) rfl h (A1 hC) Try.underlying30 rfl (by kernel_rfl) rfl
            · intro s v hC hk hd
              have h0 : s.tmps[55]? = some (E4 X) := hd 14 (by kernel_rfl)
              have h1 : s.tmps[56]? = some (E4 X) := hd 15 (by kernel_rfl)
              exact ok_call (wanted_of rfl rfl (hd 12 (by kernel_rfl))) (by simp [Act.eval, h0, h1, go_sem]) (same_eq X X hX hX true (by simp) v)
            · intro s v hC hk hd
              have h0 : s.tmps[53]? = some (.bool true) := hd 12 (by kernel_rfl)
              have h1 : s.tmps[57]? = some (.bool true) := hd 16 (by kernel_rfl)
              exact ok_value rfl (by simp [execOp, Act.eval, h0, h1, go_sem])
            · intro s v hC hk hd
              have h : s.tmps[58]? = some (.bool true) := hd 17 (by kernel_rfl)
              exact ok_value rfl (by simp [execOp, Act.eval, h])
            · intro s v hC hk hd
              have h : s.tmps[5]? = some (.pointer (some ⟨g1, 0, none⟩)) := hk 5 (by kernel_rfl)
              exact ok_load (wanted_of rfl rfl (hd 18 (by kernel_rfl))) rfl h (A1 hC) Try.underlying30 rfl (by kernel_rfl) rfl
            · intro s v hC hk hd
              have h : s.tmps[6]? = some (.pointer (some ⟨g2, 0, none⟩)) := hk 6 (by kernel_rfl)
              exact ok_load (wanted_of rfl rfl (hd 18 (by kernel_rfl))) rfl h (A2 hC) Try.underlying30 rfl (by kernel_rfl) rfl
            · intro s v hC hk hd
              have h0 : s.tmps[60]? = some (E4 X) := hd 19 (by kernel_rfl)
              have h1 : s.tmps[61]? = some (E4 Y) := hd 20 (by kernel_rfl)
              exact ok_call (wanted_of rfl rfl (hd 18 (by kernel_rfl))) (by simp [Act.eval, h0, h1, go_sem]) (same_eq X Y hX hY r HR.out v)
            · intro s v hC hk hd
              have h : s.tmps[7]? = some (.pointer (some ⟨n1, 0, none⟩)) := hk 7 (by kernel_rfl)
              exact ok_load (wanted_of rfl rfl (hd 18 (by kernel_rfl))) rfl h (A3 hC) Try.underlying23 rfl (by kernel_rfl) SK.out
            · intro s v hC hk hd
              have h : s.tmps[6]? = some (.pointer (some ⟨g2, 0, none⟩)) := hk 6 (by kernel_rfl)
              exact ok_load (wanted_of rfl rfl (hd 18 (by kernel_rfl))) rfl h (A2 hC) Try.underlying30 rfl (by kernel_rfl) rfl
            · intro s v hC hk hd
              have h0 : s.tmps[64]? = some (E4 Y) := hd 23 (by kernel_rfl)
              exact ok_call (wanted_of rfl rfl (hd 18 (by kernel_rfl))) (by simp [Act.eval, h0, go_sem]) (K8.out v)
            · intro s v hC hk hd
              have h0 : s.tmps[63]? = some (.agg ck) := hd 22 (by kernel_rfl)
              have h1 : s.tmps[65]? = some (.agg cy) := hd 24 (by kernel_rfl)
              exact ok_eql_keys (wanted_of rfl rfl (hd 18 (by kernel_rfl))) rfl _ _ r (by simp [keyL_len]) (by simp [keyL_len]) HK.out h0 h1 CK.out CY.out
            · intro s v hC hk hd
              have h0 : s.tmps[62]? = some (.bool r) := hd 21 (by kernel_rfl)
              have h1 : s.tmps[66]? = some (.bool r) := hd 25 (by kernel_rfl)
              exact ok_value (wanted_of rfl rfl (hd 18 (by kernel_rfl))) (by simp [execOp, Act.eval, h0, h1, go_sem])
            · intro s v hC hk hd
              have h0 : s.tmps[59]? = some (.bool true) := hd 18 (by kernel_rfl)
              have h1 : s.tmps[67]? = some (.bool true) := hd 26 (by kernel_rfl)
              exact ok_value rfl (by simp [execOp, Act.eval, h0, h1, go_sem])
            · intro s v hC hk hd
              have h : s.tmps[68]? = some (.bool true) := hd 27 (by kernel_rfl)
              exact ok_value rfl (by simp [execOp, Act.eval, h])
            · intro s v hC hk hd
              exact ok_value (wanted_of rfl rfl (hd 28 (by kernel_rfl))) (by simp [execOp, go_sem])
            · intro s v hC hk hd
              exact ok_call (wanted_of rfl rfl (hd 28 (by kernel_rfl))) (by simp [Act.eval, go_sem]) (num_any 0 (by decide) v)
            · intro s v hC hk hd
              have h0 : s.tmps[70]? = some (E4 0) := (hd 29 (by kernel_rfl)).trans (congrArg some zeroE4)
              have h1 : s.tmps[71]? = some (E4 0) := hd 30 (by kernel_rfl)
              exact ok_call (wanted_of rfl rfl (hd 28 (by kernel_rfl))) (by simp [Act.eval, h0, h1, go_sem]) (same_eq 0 0 (by decide) (by decide) true rfl v)
            · intro s v hC hk hd
              have h0 : s.tmps[69]? = some (.bool true) := hd 28 (by kernel_rfl)
              have h1 : s.tmps[72]? = some (.bool true) := hd 31 (by kernel_rfl)
              exact ok_value rfl (by simp [execOp, Act.eval, h0, h1, go_sem])
            · intro s v hC hk hd
              have h : s.tmps[73]? = some (.bool true) := hd 32 (by kernel_rfl)
              exact ok_value rfl (by simp [execOp, Act.eval, h])
            · intro s v hC hk hd
              exact ok_call (wanted_of rfl rfl (hd 33 (by kernel_rfl))) (by simp [go_sem]) (wakes_any v)
            · intro s v hC hk hd
              have h0 : s.tmps[74]? = some (.bool true) := hd 33 (by kernel_rfl)
              have h1 : s.tmps[75]? = some (.bool true) := hd 34 (by kernel_rfl)
              exact ok_value rfl (by simp [execOp, Act.eval, h0, h1, go_sem])
            · intro s v hC hk hd
              have h : s.tmps[76]? = some (.bool true) := hd 35 (by kernel_rfl)
              exact ok_value rfl (by simp [execOp, Act.eval, h])
          · intro b wB hC _ _
            simp [valsOf, valOf, putAll, Act.put]
            have B : Hid (Below w.heap.size w wB) := B4.out.trans (hC.mono B4.out.size)
            clear hC A1 A2 A3 A4
            go_wp2_with fail
            go_ret
            exact ⟨rfl, B.out⟩
end Go.Proofs.Ytpgmaidbemndnaa
