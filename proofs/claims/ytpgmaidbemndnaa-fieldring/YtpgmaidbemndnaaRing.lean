/- FieldRing: the walk. -/
import Derived.Test.YtpgmaidbemndnaaW8
namespace Go.Proofs.Ytpgmaidbemndnaa
open Go.RowKit

theorem pN_pos : 0 < pN := by decide

set_option maxRecDepth 100000 in
set_option maxHeartbeats 8000000 in
theorem ring_raw (c1 c2 c3 : Array Value) (X Y Z : Nat) (hX : X < pN) (hY : Y < pN) (hZ : Z < pN) (s1 : c1.size = 32) (s2 : c2.size = 32) (s3 : c3.size = 32) (HS0 : ((X + Y) % pN) = ((Y + X) % pN)) (HS1 : (X * Y % pN) = (Y * X % pN)) (HS2 : ((((X + Y) % pN) + Z) % pN) = ((X + ((Y + Z) % pN)) % pN)) (HS3 : ((X * Y % pN) * Z % pN) = (X * (Y * Z % pN) % pN)) (HS4 : (X * ((Y + Z) % pN) % pN) = (((X * Y % pN) + (X * Z % pN)) % pN)) (HS5 : ((((X + (pN - Y)) % pN) + Y) % pN) = X) (HS6 : (((X + Y) % pN + Z) % pN) = ((X + ((Y + Z) % pN)) % pN)) (HS7 : ((X * Y % pN) * Z % pN) = (X * (Y * Z % pN) % pN))
    (k1 : ∀ w, Calls Try.prog 8 #[.agg c1] w fun e w' => e = .returned (E4 X) ∧ Below w.heap.size w w')
    (k2 : ∀ w, Calls Try.prog 8 #[.agg c2] w fun e w' => e = .returned (E4 Y) ∧ Below w.heap.size w w')
    (k3 : ∀ w, Calls Try.prog 8 #[.agg c3] w fun e w' => e = .returned (E4 Z) ∧ Below w.heap.size w w') (w : World) :
    Calls Try.prog 5 #[.agg c1, .agg c2, .agg c3] w fun e w' => e = .returned (.bool true) ∧ Below w.heap.size w w' := by
  have KX : Hid _ := k1
  have KY : Hid _ := k2
  have KZ : Hid _ := k3
  have S1h : Hid _ := s1
  have S2h : Hid _ := s2
  have S3h : Hid _ := s3
  have HSS : Hid (((X + Y) % pN) = ((Y + X) % pN) ∧ (X * Y % pN) = (Y * X % pN) ∧ ((((X + Y) % pN) + Z) % pN) = ((X + ((Y + Z) % pN)) % pN) ∧ ((X * Y % pN) * Z % pN) = (X * (Y * Z % pN) % pN) ∧ (X * ((Y + Z) % pN) % pN) = (((X * Y % pN) + (X * Z % pN)) % pN) ∧ ((((X + (pN - Y)) % pN) + Y) % pN) = X ∧ (((X + Y) % pN + Z) % pN) = ((X + ((Y + Z) % pN)) % pN) ∧ ((X * Y % pN) * Z % pN) = (X * (Y * Z % pN) % pN)) := ⟨HS0, HS1, HS2, HS3, HS4, HS5, HS6, HS7⟩
  clear k1 k2 k3 s1 s2 s3 HS0 HS1 HS2 HS3 HS4 HS5 HS6 HS7
  go_enter Try.func5, Try.ntmps5
  go_wp2_with fail
  generalize hW : ((w.alloc (Obj.cells c1 23)).alloc (Obj.cells c2 23)).alloc (Obj.cells c3 23) = W
  have P1' : W.heap[w.heap.size]? = some (.cells c1 23) := by rw [← hW, heap_old _ _ (by simp; omega), heap_old _ _ (by simp)]; exact heap_new _ _
  have P2' : W.heap[w.heap.size + 1]? = some (.cells c2 23) := by rw [← hW, heap_old _ _ (by simp)]; exact heap_new' _ _ (by simp)
  have P3' : W.heap[w.heap.size + 1 + 1]? = some (.cells c3 23) := by rw [← hW]; exact heap_new' _ _ (by simp)
  have B0 : Below w.heap.size w W := by rw [← hW]; exact (((Below.refl _ _).alloc (Nat.le_refl _) _).alloc (by simp) _).alloc (by simp; omega) _
  clear hW
  have P1 : ∀ {v : World}, Below W.heap.size W v → v.heap[w.heap.size]? = some (.cells c1 23) := fun hC => keep hC P1'
  have P2 : ∀ {v : World}, Below W.heap.size W v → v.heap[w.heap.size + 1]? = some (.cells c2 23) := fun hC => keep hC P2'
  have P3 : ∀ {v : World}, Below W.heap.size W v → v.heap[w.heap.size + 1 + 1]? = some (.cells c3 23) := fun hC => keep hC P3'
  refine region_list W.heap.size (C := fun w' => Below W.heap.size W w') [.inl (.agg c1), .inl (E4 X), .inl (.agg c2), .inl (E4 Y), .inl (.agg c3), .inl (E4 Z), .inr (.cells #[.int .u64 0, .int .u64 0, .int .u64 0, .int .u64 0] 30, fun b => .pointer (some ⟨b, 0, none⟩)), .inr (.cells #[.int .u64 0, .int .u64 0, .int .u64 0, .int .u64 0] 30, fun b => .pointer (some ⟨b, 0, none⟩)), .inr (.cells #[.int .u64 0, .int .u64 0, .int .u64 0, .int .u64 0] 30, fun b => .pointer (some ⟨b, 0, none⟩))] [6, 7, 8] (by kernel_rfl) (by kernel_rfl) ⟨rfl, rfl, rfl, Nat.le_refl _, fun _ _ => rfl⟩
    (fun w1 w2 h1 h2 => h1.trans (h2.mono h1.size)) (fun i h => by
      obtain rfl | rfl | rfl : i = 6 ∨ i = 7 ∨ i = 8 := by simpa using h
      all_goals exact ⟨_, rfl⟩) ?_ ?_
  · refine ⟨?_, ?_, ?_, ?_, ?_, ?_, ?_, ?_, ?_, trivial⟩
    · intro s v hC hk hd
      have h : s.tmps[3]? = some (.pointer (some ⟨w.heap.size, 0, none⟩)) := hk 3 (by kernel_rfl)
      exact ok_load rfl rfl h (P1 hC) Try.underlying23 rfl (by kernel_rfl) S1h.out
    · intro s v hC hk hd
      have h0 : s.tmps[10]? = some (.agg c1) := hd 0 (by kernel_rfl)
      exact ok_call rfl (by simp [Act.eval, h0, go_sem]) (KX.out v)
    · intro s v hC hk hd
      have h : s.tmps[4]? = some (.pointer (some ⟨w.heap.size + 1, 0, none⟩)) := hk 4 (by kernel_rfl)
      exact ok_load rfl rfl h (P2 hC) Try.underlying23 rfl (by kernel_rfl) S2h.out
    · intro s v hC hk hd
      have h0 : s.tmps[12]? = some (.agg c2) := hd 2 (by kernel_rfl)
      exact ok_call rfl (by simp [Act.eval, h0, go_sem]) (KY.out v)
    · intro s v hC hk hd
      have h : s.tmps[5]? = some (.pointer (some ⟨w.heap.size + 1 + 1, 0, none⟩)) := hk 5 (by kernel_rfl)
      exact ok_load rfl rfl h (P3 hC) Try.underlying23 rfl (by kernel_rfl) S3h.out
    · intro s v hC hk hd
      have h0 : s.tmps[14]? = some (.agg c3) := hd 4 (by kernel_rfl)
      exact ok_call rfl (by simp [Act.eval, h0, go_sem]) (KZ.out v)
    · intro s v hC hk hd
      exact ok_alloc hC.size rfl (by simp [execOp, go_sem])
    · intro s v hC hk hd
      exact ok_alloc hC.size rfl (by simp [execOp, go_sem])
    · intro s v hC hk hd
      exact ok_alloc hC.size rfl (by simp [execOp, go_sem])
  · intro b wA hC hf hne
    have n1 : b 6 ≠ b 7 := hne 6 7 rfl rfl (by decide)
    have n2 : b 6 ≠ b 8 := hne 6 8 rfl rfl (by decide)
    have n3 : b 7 ≠ b 8 := hne 7 8 rfl rfl (by decide)
    obtain ⟨⟨l1, f1⟩, ⟨l2, f2⟩, ⟨l3, f3⟩, _⟩ := hf
    simp only [Nat.zero_add, Nat.reduceAdd] at l1 l2 l3 f1 f2 f3
    have B1 : Below w.heap.size w wA := B0.trans (hC.mono B0.size)
    have hs0 := B0.size
    clear hne hC P1 P2 P3 P1' P2' P3' B0
    simp [valsOf, valOf, putAll, Act.put]
    generalize b 6 = g1 at *
    generalize b 7 = g2 at *
    generalize b 8 = g3 at *
    refine wpList_store_blk (b := g1) rfl rfl rfl rfl f1 (by kernel_rfl) rfl rfl (by simp [Value.oneCell']) ?_
    refine wpList_store_blk (b := g2) rfl rfl rfl rfl ((heap_setCells_ne (Ne.symm n1) _ _ _).trans f2) (by kernel_rfl) rfl rfl (by simp [Value.oneCell']) ?_
    refine wpList_store_blk (b := g3) rfl rfl rfl rfl ((heap_setCells_ne (Ne.symm n3) _ _ _).trans ((heap_setCells_ne (Ne.symm n2) _ _ _).trans f3)) (by kernel_rfl) rfl rfl (by simp [Value.oneCell']) ?_
    simp only [Act.put]
    generalize hV : World.setCells (World.setCells (World.setCells wA g1 0 _) g2 0 _) g3 0 _ = V
    have Q1' : V.heap[g1]? = some (.cells #[.int .u64 (w0 X : Nat), .int .u64 (w1 X : Nat), .int .u64 (w2 X : Nat), .int .u64 (w3 X : Nat)] 30) := by rw [← hV]; exact (heap_setCells_ne n2 _ _ _).trans ((heap_setCells_ne n1 _ _ _).trans (heap_setCells_all _ f1 rfl))
    have Q2' : V.heap[g2]? = some (.cells #[.int .u64 (w0 Y : Nat), .int .u64 (w1 Y : Nat), .int .u64 (w2 Y : Nat), .int .u64 (w3 Y : Nat)] 30) := by rw [← hV]; exact (heap_setCells_ne n3 _ _ _).trans (heap_setCells_all _ ((heap_setCells_ne (Ne.symm n1) _ _ _).trans f2) rfl)
    have Q3' : V.heap[g3]? = some (.cells #[.int .u64 (w0 Z : Nat), .int .u64 (w1 Z : Nat), .int .u64 (w2 Z : Nat), .int .u64 (w3 Z : Nat)] 30) := by rw [← hV]; exact heap_setCells_all _ ((heap_setCells_ne (Ne.symm n3) _ _ _).trans ((heap_setCells_ne (Ne.symm n2) _ _ _).trans f3)) rfl
    have B0 : Below w.heap.size w V := by rw [← hV]; exact below_setCells (by omega) _ _ _ (below_setCells (by omega) _ _ _ (below_setCells (by omega) _ _ _ B1))
    clear hV f1 f2 f3 n1 n2 n3 l1 l2 l3 hs0 B1
    have BB : Hid _ := B0
    have QQ1 : Hid _ := Q1'
    have QQ2 : Hid _ := Q2'
    have QQ3 : Hid _ := Q3'
    clear B0 Q1' Q2' Q3'
    go_wp2_with fail
    obtain ⟨HS0, HS1, HS2, HS3, HS4, HS5, HS6, HS7⟩ := HSS.out
    have Q1 : ∀ {v : World}, Below V.heap.size V v → v.heap[g1]? = some (.cells #[.int .u64 (w0 X : Nat), .int .u64 (w1 X : Nat), .int .u64 (w2 X : Nat), .int .u64 (w3 X : Nat)] 30) := fun hC => keep hC QQ1.out
    have Q2 : ∀ {v : World}, Below V.heap.size V v → v.heap[g2]? = some (.cells #[.int .u64 (w0 Y : Nat), .int .u64 (w1 Y : Nat), .int .u64 (w2 Y : Nat), .int .u64 (w3 Y : Nat)] 30) := fun hC => keep hC QQ2.out
    have Q3 : ∀ {v : World}, Below V.heap.size V v → v.heap[g3]? = some (.cells #[.int .u64 (w0 Z : Nat), .int .u64 (w1 Z : Nat), .int .u64 (w2 Z : Nat), .int .u64 (w3 Z : Nat)] 30) := fun hC => keep hC QQ3.out
    refine region_list V.heap.size (C := fun w' => Below V.heap.size V w') [.inl (E4 X), .inl (E4 Y), .inr (.cells #[.int .u64 (w0 X : Nat), .int .u64 (w1 X : Nat), .int .u64 (w2 X : Nat), .int .u64 (w3 X : Nat), .int .u64 (w0 Y : Nat), .int .u64 (w1 Y : Nat), .int .u64 (w2 Y : Nat), .int .u64 (w3 Y : Nat)] 30, fun b => .slice (some ⟨b, 0, none⟩) 2 2), .inl (E4 ((X + Y) % pN)), .inl (E4 Y), .inl (E4 X), .inr (.cells #[.int .u64 (w0 Y : Nat), .int .u64 (w1 Y : Nat), .int .u64 (w2 Y : Nat), .int .u64 (w3 Y : Nat), .int .u64 (w0 X : Nat), .int .u64 (w1 X : Nat), .int .u64 (w2 X : Nat), .int .u64 (w3 X : Nat)] 30, fun b => .slice (some ⟨b, 0, none⟩) 2 2), .inl (E4 ((Y + X) % pN)), .inl (.bool true), .inl (.bool true), .inl (E4 X), .inl (E4 Y), .inr (.cells #[.int .u64 (w0 X : Nat), .int .u64 (w1 X : Nat), .int .u64 (w2 X : Nat), .int .u64 (w3 X : Nat), .int .u64 (w0 Y : Nat), .int .u64 (w1 Y : Nat), .int .u64 (w2 Y : Nat), .int .u64 (w3 Y : Nat)] 30, fun b => .slice (some ⟨b, 0, none⟩) 2 2), .inl (E4 (X * Y % pN)), .inl (E4 Y), .inl (E4 X), .inr (.cells #[.int .u64 (w0 Y : Nat), .int .u64 (w1 Y : Nat), .int .u64 (w2 Y : Nat), .int .u64 (w3 Y : Nat), .int .u64 (w0 X : Nat), .int .u64 (w1 X : Nat), .int .u64 (w2 X : Nat), .int .u64 (w3 X : Nat)] 30, fun b => .slice (some ⟨b, 0, none⟩) 2 2), .inl (E4 (Y * X % pN)), .inl (.bool true), .inl (.bool true), .inl (.bool true), .inl (E4 X), .inl (E4 Y), .inr (.cells #[.int .u64 (w0 X : Nat), .int .u64 (w1 X : Nat), .int .u64 (w2 X : Nat), .int .u64 (w3 X : Nat), .int .u64 (w0 Y : Nat), .int .u64 (w1 Y : Nat), .int .u64 (w2 Y : Nat), .int .u64 (w3 Y : Nat)] 30, fun b => .slice (some ⟨b, 0, none⟩) 2 2), .inl (E4 ((X + Y) % pN)), .inl (E4 Z), .inr (.cells #[.int .u64 (w0 ((X + Y) % pN) : Nat), .int .u64 (w1 ((X + Y) % pN) : Nat), .int .u64 (w2 ((X + Y) % pN) : Nat), .int .u64 (w3 ((X + Y) % pN) : Nat), .int .u64 (w0 Z : Nat), .int .u64 (w1 Z : Nat), .int .u64 (w2 Z : Nat), .int .u64 (w3 Z : Nat)] 30, fun b => .slice (some ⟨b, 0, none⟩) 2 2), .inl (E4 ((((X + Y) % pN) + Z) % pN)), .inl (E4 X), .inl (E4 Y), .inl (E4 Z), .inr (.cells #[.int .u64 (w0 Y : Nat), .int .u64 (w1 Y : Nat), .int .u64 (w2 Y : Nat), .int .u64 (w3 Y : Nat), .int .u64 (w0 Z : Nat), .int .u64 (w1 Z : Nat), .int .u64 (w2 Z : Nat), .int .u64 (w3 Z : Nat)] 30, fun b => .slice (some ⟨b, 0, none⟩) 2 2), .inl (E4 ((Y + Z) % pN)), .inr (.cells #[.int .u64 (w0 X : Nat), .int .u64 (w1 X : Nat), .int .u64 (w2 X : Nat), .int .u64 (w3 X : Nat), .int .u64 (w0 ((Y + Z) % pN) : Nat), .int .u64 (w1 ((Y + Z) % pN) : Nat), .int .u64 (w2 ((Y + Z) % pN) : Nat), .int .u64 (w3 ((Y + Z) % pN) : Nat)] 30, fun b => .slice (some ⟨b, 0, none⟩) 2 2), .inl (E4 ((X + ((Y + Z) % pN)) % pN)), .inl (.bool true), .inl (.bool true), .inl (.bool true), .inl (E4 X), .inl (E4 Y), .inr (.cells #[.int .u64 (w0 X : Nat), .int .u64 (w1 X : Nat), .int .u64 (w2 X : Nat), .int .u64 (w3 X : Nat), .int .u64 (w0 Y : Nat), .int .u64 (w1 Y : Nat), .int .u64 (w2 Y : Nat), .int .u64 (w3 Y : Nat)] 30, fun b => .slice (some ⟨b, 0, none⟩) 2 2), .inl (E4 (X * Y % pN)), .inl (E4 Z), .inr (.cells #[.int .u64 (w0 (X * Y % pN) : Nat), .int .u64 (w1 (X * Y % pN) : Nat), .int .u64 (w2 (X * Y % pN) : Nat), .int .u64 (w3 (X * Y % pN) : Nat), .int .u64 (w0 Z : Nat), .int .u64 (w1 Z : Nat), .int .u64 (w2 Z : Nat), .int .u64 (w3 Z : Nat)] 30, fun b => .slice (some ⟨b, 0, none⟩) 2 2), .inl (E4 ((X * Y % pN) * Z % pN)), .inl (E4 X), .inl (E4 Y), .inl (E4 Z), .inr (.cells #[.int .u64 (w0 Y : Nat), .int .u64 (w1 Y : Nat), .int .u64 (w2 Y : Nat), .int .u64 (w3 Y : Nat), .int .u64 (w0 Z : Nat), .int .u64 (w1 Z : Nat), .int .u64 (w2 Z : Nat), .int .u64 (w3 Z : Nat)] 30, fun b => .slice (some ⟨b, 0, none⟩) 2 2), .inl (E4 (Y * Z % pN)), .inr (.cells #[.int .u64 (w0 X : Nat), .int .u64 (w1 X : Nat), .int .u64 (w2 X : Nat), .int .u64 (w3 X : Nat), .int .u64 (w0 (Y * Z % pN) : Nat), .int .u64 (w1 (Y * Z % pN) : Nat), .int .u64 (w2 (Y * Z % pN) : Nat), .int .u64 (w3 (Y * Z % pN) : Nat)] 30, fun b => .slice (some ⟨b, 0, none⟩) 2 2), .inl (E4 (X * (Y * Z % pN) % pN)), .inl (.bool true), .inl (.bool true), .inl (.bool true), .inl (E4 X), .inl (E4 Y), .inl (E4 Z), .inr (.cells #[.int .u64 (w0 Y : Nat), .int .u64 (w1 Y : Nat), .int .u64 (w2 Y : Nat), .int .u64 (w3 Y : Nat), .int .u64 (w0 Z : Nat), .int .u64 (w1 Z : Nat), .int .u64 (w2 Z : Nat), .int .u64 (w3 Z : Nat)] 30, fun b => .slice (some ⟨b, 0, none⟩) 2 2), .inl (E4 ((Y + Z) % pN)), .inr (.cells #[.int .u64 (w0 X : Nat), .int .u64 (w1 X : Nat), .int .u64 (w2 X : Nat), .int .u64 (w3 X : Nat), .int .u64 (w0 ((Y + Z) % pN) : Nat), .int .u64 (w1 ((Y + Z) % pN) : Nat), .int .u64 (w2 ((Y + Z) % pN) : Nat), .int .u64 (w3 ((Y + Z) % pN) : Nat)] 30, fun b => .slice (some ⟨b, 0, none⟩) 2 2), .inl (E4 (X * ((Y + Z) % pN) % pN)), .inl (E4 X), .inl (E4 Y), .inr (.cells #[.int .u64 (w0 X : Nat), .int .u64 (w1 X : Nat), .int .u64 (w2 X : Nat), .int .u64 (w3 X : Nat), .int .u64 (w0 Y : Nat), .int .u64 (w1 Y : Nat), .int .u64 (w2 Y : Nat), .int .u64 (w3 Y : Nat)] 30, fun b => .slice (some ⟨b, 0, none⟩) 2 2), .inl (E4 (X * Y % pN)), .inl (E4 X), .inl (E4 Z), .inr (.cells #[.int .u64 (w0 X : Nat), .int .u64 (w1 X : Nat), .int .u64 (w2 X : Nat), .int .u64 (w3 X : Nat), .int .u64 (w0 Z : Nat), .int .u64 (w1 Z : Nat), .int .u64 (w2 Z : Nat), .int .u64 (w3 Z : Nat)] 30, fun b => .slice (some ⟨b, 0, none⟩) 2 2), .inl (E4 (X * Z % pN)), .inr (.cells #[.int .u64 (w0 (X * Y % pN) : Nat), .int .u64 (w1 (X * Y % pN) : Nat), .int .u64 (w2 (X * Y % pN) : Nat), .int .u64 (w3 (X * Y % pN) : Nat), .int .u64 (w0 (X * Z % pN) : Nat), .int .u64 (w1 (X * Z % pN) : Nat), .int .u64 (w2 (X * Z % pN) : Nat), .int .u64 (w3 (X * Z % pN) : Nat)] 30, fun b => .slice (some ⟨b, 0, none⟩) 2 2), .inl (E4 (((X * Y % pN) + (X * Z % pN)) % pN)), .inl (.bool true), .inl (.bool true), .inl (.bool true), .inl (E4 X), .inl (E4 Y), .inl (E4 ((X + (pN - Y)) % pN)), .inl (E4 Y), .inr (.cells #[.int .u64 (w0 ((X + (pN - Y)) % pN) : Nat), .int .u64 (w1 ((X + (pN - Y)) % pN) : Nat), .int .u64 (w2 ((X + (pN - Y)) % pN) : Nat), .int .u64 (w3 ((X + (pN - Y)) % pN) : Nat), .int .u64 (w0 Y : Nat), .int .u64 (w1 Y : Nat), .int .u64 (w2 Y : Nat), .int .u64 (w3 Y : Nat)] 30, fun b => .slice (some ⟨b, 0, none⟩) 2 2), .inl (E4 ((((X + (pN - Y)) % pN) + Y) % pN)), .inl (E4 X), .inl (.bool true), .inl (.bool true), .inl (.bool true), .inl (E4 X), .inl (E4 Y), .inl (E4 Z), .inr (.cells #[.int .u64 (w0 X : Nat), .int .u64 (w1 X : Nat), .int .u64 (w2 X : Nat), .int .u64 (w3 X : Nat), .int .u64 (w0 Y : Nat), .int .u64 (w1 Y : Nat), .int .u64 (w2 Y : Nat), .int .u64 (w3 Y : Nat), .int .u64 (w0 Z : Nat), .int .u64 (w1 Z : Nat), .int .u64 (w2 Z : Nat), .int .u64 (w3 Z : Nat)] 30, fun b => .slice (some ⟨b, 0, none⟩) 3 3), .inl (E4 (((X + Y) % pN + Z) % pN)), .inl (E4 X), .inl (E4 Y), .inl (E4 Z), .inr (.cells #[.int .u64 (w0 Y : Nat), .int .u64 (w1 Y : Nat), .int .u64 (w2 Y : Nat), .int .u64 (w3 Y : Nat), .int .u64 (w0 Z : Nat), .int .u64 (w1 Z : Nat), .int .u64 (w2 Z : Nat), .int .u64 (w3 Z : Nat)] 30, fun b => .slice (some ⟨b, 0, none⟩) 2 2), .inl (E4 ((Y + Z) % pN)), .inr (.cells #[.int .u64 (w0 X : Nat), .int .u64 (w1 X : Nat), .int .u64 (w2 X : Nat), .int .u64 (w3 X : Nat), .int .u64 (w0 ((Y + Z) % pN) : Nat), .int .u64 (w1 ((Y + Z) % pN) : Nat), .int .u64 (w2 ((Y + Z) % pN) : Nat), .int .u64 (w3 ((Y + Z) % pN) : Nat)] 30, fun b => .slice (some ⟨b, 0, none⟩) 2 2), .inl (E4 ((X + ((Y + Z) % pN)) % pN)), .inl (.bool true), .inl (.bool true), .inl (.bool true), .inl (E4 X), .inl (E4 Y), .inl (E4 Z), .inr (.cells #[.int .u64 (w0 X : Nat), .int .u64 (w1 X : Nat), .int .u64 (w2 X : Nat), .int .u64 (w3 X : Nat), .int .u64 (w0 Y : Nat), .int .u64 (w1 Y : Nat), .int .u64 (w2 Y : Nat), .int .u64 (w3 Y : Nat), .int .u64 (w0 Z : Nat), .int .u64 (w1 Z : Nat), .int .u64 (w2 Z : Nat), .int .u64 (w3 Z : Nat)] 30, fun b => .slice (some ⟨b, 0, none⟩) 3 3), .inl (E4 ((X * Y % pN) * Z % pN)), .inl (E4 X), .inl (E4 Y), .inl (E4 Z), .inr (.cells #[.int .u64 (w0 Y : Nat), .int .u64 (w1 Y : Nat), .int .u64 (w2 Y : Nat), .int .u64 (w3 Y : Nat), .int .u64 (w0 Z : Nat), .int .u64 (w1 Z : Nat), .int .u64 (w2 Z : Nat), .int .u64 (w3 Z : Nat)] 30, fun b => .slice (some ⟨b, 0, none⟩) 2 2), .inl (E4 (Y * Z % pN)), .inr (.cells #[.int .u64 (w0 X : Nat), .int .u64 (w1 X : Nat), .int .u64 (w2 X : Nat), .int .u64 (w3 X : Nat), .int .u64 (w0 (Y * Z % pN) : Nat), .int .u64 (w1 (Y * Z % pN) : Nat), .int .u64 (w2 (Y * Z % pN) : Nat), .int .u64 (w3 (Y * Z % pN) : Nat)] 30, fun b => .slice (some ⟨b, 0, none⟩) 2 2), .inl (E4 (X * (Y * Z % pN) % pN)), .inl (.bool true), .inl (.bool true), .inl (.bool true), .inl (.bool true), .inl (.bool true), .inl (.bool true)] [] (by kernel_rfl) (by kernel_rfl) ⟨rfl, rfl, rfl, Nat.le_refl _, fun _ _ => rfl⟩
      (fun w1 w2 h1 h2 => h1.trans (h2.mono h1.size)) (fun i h => by simp at h) ?_ ?_
    · refine ⟨?_, ?_, ?_, ?_, ?_, ?_, ?_, ?_, ?_, ?_, ?_, ?_, ?_, ?_, ?_, ?_, ?_, ?_, ?_, ?_, ?_, ?_, ?_, ?_, ?_, ?_, ?_, ?_, ?_, ?_, ?_, ?_, ?_, ?_, ?_, ?_, ?_, ?_, ?_, ?_, ?_, ?_, ?_, ?_, ?_, ?_, ?_, ?_, ?_, ?_, ?_, ?_, ?_, ?_, ?_, ?_, ?_, ?_, ?_, ?_, ?_, ?_, ?_, ?_, ?_, ?_, ?_, ?_, ?_, ?_, ?_, ?_, ?_, ?_, ?_, ?_, ?_, ?_, ?_, ?_, ?_, ?_, ?_, ?_, ?_, ?_, ?_, ?_, ?_, ?_, ?_, ?_, ?_, ?_, ?_, ?_, ?_, ?_, ?_, ?_, ?_, ?_, ?_, ?_, ?_, ?_, ?_, ?_, ?_, ?_, ?_, ?_, ?_, ?_, ?_, ?_, ?_, ?_, trivial⟩
      · intro s v hC hk hd
        have h : s.tmps[7]? = some (.pointer (some ⟨g1, 0, none⟩)) := hk 7 (by kernel_rfl)
        exact ok_load rfl rfl h (Q1 hC) Try.underlying30 rfl (by kernel_rfl) rfl
      · intro s v hC hk hd
        have h : s.tmps[8]? = some (.pointer (some ⟨g2, 0, none⟩)) := hk 8 (by kernel_rfl)
        exact ok_load rfl rfl h (Q2 hC) Try.underlying30 rfl (by kernel_rfl) rfl
      · intro s v hC hk hd
        have h0 : s.tmps[16]? = some (E4 X) := hd 0 (by kernel_rfl)
        have h1 : s.tmps[17]? = some (E4 Y) := hd 1 (by kernel_rfl)
        exact ok_new hC.size rfl (by simp [execOp, Act.eval, h0, h1, go_sem])
      · intro s v hC hk hd
        obtain ⟨h0b, h0, h0l, h0h⟩ := holds_new (s.tmps[18]?) v (.cells #[.int .u64 (w0 X : Nat), .int .u64 (w1 X : Nat), .int .u64 (w2 X : Nat), .int .u64 (w3 X : Nat), .int .u64 (w0 Y : Nat), .int .u64 (w1 Y : Nat), .int .u64 (w2 Y : Nat), .int .u64 (w3 Y : Nat)] 30) (fun b => .slice (some ⟨b, 0, none⟩) 2 2) (hd 2 (by kernel_rfl))
        exact ok_call rfl (by simp [Act.eval, h0, go_sem]) (add2 X Y hX hY v h0b h0h)
      · intro s v hC hk hd
        have h : s.tmps[8]? = some (.pointer (some ⟨g2, 0, none⟩)) := hk 8 (by kernel_rfl)
        exact ok_load rfl rfl h (Q2 hC) Try.underlying30 rfl (by kernel_rfl) rfl
      · intro s v hC hk hd
        have h : s.tmps[7]? = some (.pointer (some ⟨g1, 0, none⟩)) := hk 7 (by kernel_rfl)
        exact ok_load rfl rfl h (Q1 hC) Try.underlying30 rfl (by kernel_rfl) rfl
      · intro s v hC hk hd
        have h0 : s.tmps[20]? = some (E4 Y) := hd 4 (by kernel_rfl)
        have h1 : s.tmps[21]? = some (E4 X) := hd 5 (by kernel_rfl)
        exact ok_new hC.size rfl (by simp [execOp, Act.eval, h0, h1, go_sem])
      · intro s v hC hk hd
        obtain ⟨h0b, h0, h0l, h0h⟩ := holds_new (s.tmps[22]?) v (.cells #[.int .u64 (w0 Y : Nat), .int .u64 (w1 Y : Nat), .int .u64 (w2 Y : Nat), .int .u64 (w3 Y : Nat), .int .u64 (w0 X : Nat), .int .u64 (w1 X : Nat), .int .u64 (w2 X : Nat), .int .u64 (w3 X : Nat)] 30) (fun b => .slice (some ⟨b, 0, none⟩) 2 2) (hd 6 (by kernel_rfl))
        exact ok_call rfl (by simp [Act.eval, h0, go_sem]) (add2 Y X hY hX v h0b h0h)
      · intro s v hC hk hd
        have h0 : s.tmps[19]? = some (E4 ((X + Y) % pN)) := hd 3 (by kernel_rfl)
        have h1 : s.tmps[23]? = some (E4 ((Y + X) % pN)) := hd 7 (by kernel_rfl)
        exact ok_call rfl (by simp [Act.eval, h0, h1, go_sem]) (same_eq ((X + Y) % pN) ((Y + X) % pN) (Nat.mod_lt _ pN_pos) (Nat.mod_lt _ pN_pos) true (beq_iff_eq.2 (HS0)) v)
      · intro s v hC hk hd
        have h : s.tmps[24]? = some (.bool true) := hd 8 (by kernel_rfl)
        exact ok_value rfl (by simp [execOp, Act.eval, h])
      · intro s v hC hk hd
        have h : s.tmps[7]? = some (.pointer (some ⟨g1, 0, none⟩)) := hk 7 (by kernel_rfl)
        exact ok_load (wanted_of rfl rfl (hd 9 (by kernel_rfl))) rfl h (Q1 hC) Try.underlying30 rfl (by kernel_rfl) rfl
      · intro s v hC hk hd
        have h : s.tmps[8]? = some (.pointer (some ⟨g2, 0, none⟩)) := hk 8 (by kernel_rfl)
        exact ok_load (wanted_of rfl rfl (hd 9 (by kernel_rfl))) rfl h (Q2 hC) Try.underlying30 rfl (by kernel_rfl) rfl
      · intro s v hC hk hd
        have h0 : s.tmps[26]? = some (E4 X) := hd 10 (by kernel_rfl)
        have h1 : s.tmps[27]? = some (E4 Y) := hd 11 (by kernel_rfl)
        exact ok_new hC.size (wanted_of rfl rfl (hd 9 (by kernel_rfl))) (by simp [execOp, Act.eval, h0, h1, go_sem])
      · intro s v hC hk hd
        obtain ⟨h0b, h0, h0l, h0h⟩ := holds_new (s.tmps[28]?) v (.cells #[.int .u64 (w0 X : Nat), .int .u64 (w1 X : Nat), .int .u64 (w2 X : Nat), .int .u64 (w3 X : Nat), .int .u64 (w0 Y : Nat), .int .u64 (w1 Y : Nat), .int .u64 (w2 Y : Nat), .int .u64 (w3 Y : Nat)] 30) (fun b => .slice (some ⟨b, 0, none⟩) 2 2) (hd 12 (by kernel_rfl))
        exact ok_call (wanted_of rfl rfl (hd 9 (by kernel_rfl))) (by simp [Act.eval, h0, go_sem]) (mul2 X Y hX hY v h0b h0h)
      · intro s v hC hk hd
        have h : s.tmps[8]? = some (.pointer (some ⟨g2, 0, none⟩)) := hk 8 (by kernel_rfl)
        exact ok_load (wanted_of rfl rfl (hd 9 (by kernel_rfl))) rfl h (Q2 hC) Try.underlying30 rfl (by kernel_rfl) rfl
      · intro s v hC hk hd
        have h : s.tmps[7]? = some (.pointer (some ⟨g1, 0, none⟩)) := hk 7 (by kernel_rfl)
        exact ok_load (wanted_of rfl rfl (hd 9 (by kernel_rfl))) rfl h (Q1 hC) Try.underlying30 rfl (by kernel_rfl) rfl
      · intro s v hC hk hd
        have h0 : s.tmps[30]? = some (E4 Y) := hd 14 (by kernel_rfl)
        have h1 : s.tmps[31]? = some (E4 X) := hd 15 (by kernel_rfl)
        exact ok_new hC.size (wanted_of rfl rfl (hd 9 (by kernel_rfl))) (by simp [execOp, Act.eval, h0, h1, go_sem])
      · intro s v hC hk hd
        obtain ⟨h0b, h0, h0l, h0h⟩ := holds_new (s.tmps[32]?) v (.cells #[.int .u64 (w0 Y : Nat), .int .u64 (w1 Y : Nat), .int .u64 (w2 Y : Nat), .int .u64 (w3 Y : Nat), .int .u64 (w0 X : Nat), .int .u64 (w1 X : Nat), .int .u64 (w2 X : Nat), .int .u64 (w3 X : Nat)] 30) (fun b => .slice (some ⟨b, 0, none⟩) 2 2) (hd 16 (by kernel_rfl))
        exact ok_call (wanted_of rfl rfl (hd 9 (by kernel_rfl))) (by simp [Act.eval, h0, go_sem]) (mul2 Y X hY hX v h0b h0h)
      · intro s v hC hk hd
        have h0 : s.tmps[29]? = some (E4 (X * Y % pN)) := hd 13 (by kernel_rfl)
        have h1 : s.tmps[33]? = some (E4 (Y * X % pN)) := hd 17 (by kernel_rfl)
        exact ok_call (wanted_of rfl rfl (hd 9 (by kernel_rfl))) (by simp [Act.eval, h0, h1, go_sem]) (same_eq (X * Y % pN) (Y * X % pN) (Nat.mod_lt _ pN_pos) (Nat.mod_lt _ pN_pos) true (beq_iff_eq.2 (HS1)) v)
      · intro s v hC hk hd
        have h0 : s.tmps[25]? = some (.bool true) := hd 9 (by kernel_rfl)
        have h1 : s.tmps[34]? = some (.bool true) := hd 18 (by kernel_rfl)
        exact ok_value rfl (by simp [execOp, Act.eval, h0, h1, go_sem])
      · intro s v hC hk hd
        have h : s.tmps[35]? = some (.bool true) := hd 19 (by kernel_rfl)
        exact ok_value rfl (by simp [execOp, Act.eval, h])
      · intro s v hC hk hd
        have h : s.tmps[7]? = some (.pointer (some ⟨g1, 0, none⟩)) := hk 7 (by kernel_rfl)
        exact ok_load (wanted_of rfl rfl (hd 20 (by kernel_rfl))) rfl h (Q1 hC) Try.underlying30 rfl (by kernel_rfl) rfl
      · intro s v hC hk hd
        have h : s.tmps[8]? = some (.pointer (some ⟨g2, 0, none⟩)) := hk 8 (by kernel_rfl)
        exact ok_load (wanted_of rfl rfl (hd 20 (by kernel_rfl))) rfl h (Q2 hC) Try.underlying30 rfl (by kernel_rfl) rfl
      · intro s v hC hk hd
        have h0 : s.tmps[37]? = some (E4 X) := hd 21 (by kernel_rfl)
        have h1 : s.tmps[38]? = some (E4 Y) := hd 22 (by kernel_rfl)
        exact ok_new hC.size (wanted_of rfl rfl (hd 20 (by kernel_rfl))) (by simp [execOp, Act.eval, h0, h1, go_sem])
      · intro s v hC hk hd
        obtain ⟨h0b, h0, h0l, h0h⟩ := holds_new (s.tmps[39]?) v (.cells #[.int .u64 (w0 X : Nat), .int .u64 (w1 X : Nat), .int .u64 (w2 X : Nat), .int .u64 (w3 X : Nat), .int .u64 (w0 Y : Nat), .int .u64 (w1 Y : Nat), .int .u64 (w2 Y : Nat), .int .u64 (w3 Y : Nat)] 30) (fun b => .slice (some ⟨b, 0, none⟩) 2 2) (hd 23 (by kernel_rfl))
        exact ok_call (wanted_of rfl rfl (hd 20 (by kernel_rfl))) (by simp [Act.eval, h0, go_sem]) (add2 X Y hX hY v h0b h0h)
      · intro s v hC hk hd
        have h : s.tmps[9]? = some (.pointer (some ⟨g3, 0, none⟩)) := hk 9 (by kernel_rfl)
        exact ok_load (wanted_of rfl rfl (hd 20 (by kernel_rfl))) rfl h (Q3 hC) Try.underlying30 rfl (by kernel_rfl) rfl
      · intro s v hC hk hd
        have h0 : s.tmps[40]? = some (E4 ((X + Y) % pN)) := hd 24 (by kernel_rfl)
        have h1 : s.tmps[41]? = some (E4 Z) := hd 25 (by kernel_rfl)
        exact ok_new hC.size (wanted_of rfl rfl (hd 20 (by kernel_rfl))) (by simp [execOp, Act.eval, h0, h1, go_sem])
      · intro s v hC hk hd
        obtain ⟨h0b, h0, h0l, h0h⟩ := holds_new (s.tmps[42]?) v (.cells #[.int .u64 (w0 ((X + Y) % pN) : Nat), .int .u64 (w1 ((X + Y) % pN) : Nat), .int .u64 (w2 ((X + Y) % pN) : Nat), .int .u64 (w3 ((X + Y) % pN) : Nat), .int .u64 (w0 Z : Nat), .int .u64 (w1 Z : Nat), .int .u64 (w2 Z : Nat), .int .u64 (w3 Z : Nat)] 30) (fun b => .slice (some ⟨b, 0, none⟩) 2 2) (hd 26 (by kernel_rfl))
        exact ok_call (wanted_of rfl rfl (hd 20 (by kernel_rfl))) (by simp [Act.eval, h0, go_sem]) (add2 ((X + Y) % pN) Z (Nat.mod_lt _ pN_pos) hZ v h0b h0h)
      · intro s v hC hk hd
        have h : s.tmps[7]? = some (.pointer (some ⟨g1, 0, none⟩)) := hk 7 (by kernel_rfl)
        exact ok_load (wanted_of rfl rfl (hd 20 (by kernel_rfl))) rfl h (Q1 hC) Try.underlying30 rfl (by kernel_rfl) rfl
      · intro s v hC hk hd
        have h : s.tmps[8]? = some (.pointer (some ⟨g2, 0, none⟩)) := hk 8 (by kernel_rfl)
        exact ok_load (wanted_of rfl rfl (hd 20 (by kernel_rfl))) rfl h (Q2 hC) Try.underlying30 rfl (by kernel_rfl) rfl
      · intro s v hC hk hd
        have h : s.tmps[9]? = some (.pointer (some ⟨g3, 0, none⟩)) := hk 9 (by kernel_rfl)
        exact ok_load (wanted_of rfl rfl (hd 20 (by kernel_rfl))) rfl h (Q3 hC) Try.underlying30 rfl (by kernel_rfl) rfl
      · intro s v hC hk hd
        have h0 : s.tmps[45]? = some (E4 Y) := hd 29 (by kernel_rfl)
        have h1 : s.tmps[46]? = some (E4 Z) := hd 30 (by kernel_rfl)
        exact ok_new hC.size (wanted_of rfl rfl (hd 20 (by kernel_rfl))) (by simp [execOp, Act.eval, h0, h1, go_sem])
      · intro s v hC hk hd
        obtain ⟨h0b, h0, h0l, h0h⟩ := holds_new (s.tmps[47]?) v (.cells #[.int .u64 (w0 Y : Nat), .int .u64 (w1 Y : Nat), .int .u64 (w2 Y : Nat), .int .u64 (w3 Y : Nat), .int .u64 (w0 Z : Nat), .int .u64 (w1 Z : Nat), .int .u64 (w2 Z : Nat), .int .u64 (w3 Z : Nat)] 30) (fun b => .slice (some ⟨b, 0, none⟩) 2 2) (hd 31 (by kernel_rfl))
        exact ok_call (wanted_of rfl rfl (hd 20 (by kernel_rfl))) (by simp [Act.eval, h0, go_sem]) (add2 Y Z hY hZ v h0b h0h)
      · intro s v hC hk hd
        have h0 : s.tmps[44]? = some (E4 X) := hd 28 (by kernel_rfl)
        have h1 : s.tmps[48]? = some (E4 ((Y + Z) % pN)) := hd 32 (by kernel_rfl)
        exact ok_new hC.size (wanted_of rfl rfl (hd 20 (by kernel_rfl))) (by simp [execOp, Act.eval, h0, h1, go_sem])
      · intro s v hC hk hd
        obtain ⟨h0b, h0, h0l, h0h⟩ := holds_new (s.tmps[49]?) v (.cells #[.int .u64 (w0 X : Nat), .int .u64 (w1 X : Nat), .int .u64 (w2 X : Nat), .int .u64 (w3 X : Nat), .int .u64 (w0 ((Y + Z) % pN) : Nat), .int .u64 (w1 ((Y + Z) % pN) : Nat), .int .u64 (w2 ((Y + Z) % pN) : Nat), .int .u64 (w3 ((Y + Z) % pN) : Nat)] 30) (fun b => .slice (some ⟨b, 0, none⟩) 2 2) (hd 33 (by kernel_rfl))
        exact ok_call (wanted_of rfl rfl (hd 20 (by kernel_rfl))) (by simp [Act.eval, h0, go_sem]) (add2 X ((Y + Z) % pN) hX (Nat.mod_lt _ pN_pos) v h0b h0h)
      · intro s v hC hk hd
        have h0 : s.tmps[43]? = some (E4 ((((X + Y) % pN) + Z) % pN)) := hd 27 (by kernel_rfl)
        have h1 : s.tmps[50]? = some (E4 ((X + ((Y + Z) % pN)) % pN)) := hd 34 (by kernel_rfl)
        exact ok_call (wanted_of rfl rfl (hd 20 (by kernel_rfl))) (by simp [Act.eval, h0, h1, go_sem]) (same_eq ((((X + Y) % pN) + Z) % pN) ((X + ((Y + Z) % pN)) % pN) (Nat.mod_lt _ pN_pos) (Nat.mod_lt _ pN_pos) true (beq_iff_eq.2 (HS2)) v)
      · intro s v hC hk hd
        have h0 : s.tmps[36]? = some (.bool true) := hd 20 (by kernel_rfl)
        have h1 : s.tmps[51]? = some (.bool true) := hd 35 (by kernel_rfl)
        exact ok_value rfl (by simp [execOp, Act.eval, h0, h1, go_sem])
      · intro s v hC hk hd
        have h : s.tmps[52]? = some (.bool true) := hd 36 (by kernel_rfl)
        exact ok_value rfl (by simp [execOp, Act.eval, h])
      · intro s v hC hk hd
        have h : s.tmps[7]? = some (.pointer (some ⟨g1, 0, none⟩)) := hk 7 (by kernel_rfl)
        exact ok_load (wanted_of rfl rfl (hd 37 (by kernel_rfl))) rfl h (Q1 hC) Try.underlying30 rfl (by kernel_rfl) rfl
      · intro s v hC hk hd
        have h : s.tmps[8]? = some (.pointer (some ⟨g2, 0, none⟩)) := hk 8 (by kernel_rfl)
        exact ok_load (wanted_of rfl rfl (hd 37 (by kernel_rfl))) rfl h (Q2 hC) Try.underlying30 rfl (by kernel_rfl) rfl
      · intro s v hC hk hd
        have h0 : s.tmps[54]? = some (E4 X) := hd 38 (by kernel_rfl)
        have h1 : s.tmps[55]? = some (E4 Y) := hd 39 (by kernel_rfl)
        exact ok_new hC.size (wanted_of rfl rfl (hd 37 (by kernel_rfl))) (by simp [execOp, Act.eval, h0, h1, go_sem])
      · intro s v hC hk hd
        obtain ⟨h0b, h0, h0l, h0h⟩ := holds_new (s.tmps[56]?) v (.cells #[.int .u64 (w0 X : Nat), .int .u64 (w1 X : Nat), .int .u64 (w2 X : Nat), .int .u64 (w3 X : Nat), .int .u64 (w0 Y : Nat), .int .u64 (w1 Y : Nat), .int .u64 (w2 Y : Nat), .int .u64 (w3 Y : Nat)] 30) (fun b => .slice (some ⟨b, 0, none⟩) 2 2) (hd 40 (by kernel_rfl))
        exact ok_call (wanted_of rfl rfl (hd 37 (by kernel_rfl))) (by simp [Act.eval, h0, go_sem]) (mul2 X Y hX hY v h0b h0h)
      · intro s v hC hk hd
        have h : s.tmps[9]? = some (.pointer (some ⟨g3, 0, none⟩)) := hk 9 (by kernel_rfl)
        exact ok_load (wanted_of rfl rfl (hd 37 (by kernel_rfl))) rfl h (Q3 hC) Try.underlying30 rfl (by kernel_rfl) rfl
      · intro s v hC hk hd
        have h0 : s.tmps[57]? = some (E4 (X * Y % pN)) := hd 41 (by kernel_rfl)
        have h1 : s.tmps[58]? = some (E4 Z) := hd 42 (by kernel_rfl)
        exact ok_new hC.size (wanted_of rfl rfl (hd 37 (by kernel_rfl))) (by simp [execOp, Act.eval, h0, h1, go_sem])
      · intro s v hC hk hd
        obtain ⟨h0b, h0, h0l, h0h⟩ := holds_new (s.tmps[59]?) v (.cells #[.int .u64 (w0 (X * Y % pN) : Nat), .int .u64 (w1 (X * Y % pN) : Nat), .int .u64 (w2 (X * Y % pN) : Nat), .int .u64 (w3 (X * Y % pN) : Nat), .int .u64 (w0 Z : Nat), .int .u64 (w1 Z : Nat), .int .u64 (w2 Z : Nat), .int .u64 (w3 Z : Nat)] 30) (fun b => .slice (some ⟨b, 0, none⟩) 2 2) (hd 43 (by kernel_rfl))
        exact ok_call (wanted_of rfl rfl (hd 37 (by kernel_rfl))) (by simp [Act.eval, h0, go_sem]) (mul2 (X * Y % pN) Z (Nat.mod_lt _ pN_pos) hZ v h0b h0h)
      · intro s v hC hk hd
        have h : s.tmps[7]? = some (.pointer (some ⟨g1, 0, none⟩)) := hk 7 (by kernel_rfl)
        exact ok_load (wanted_of rfl rfl (hd 37 (by kernel_rfl))) rfl h (Q1 hC) Try.underlying30 rfl (by kernel_rfl) rfl
      · intro s v hC hk hd
        have h : s.tmps[8]? = some (.pointer (some ⟨g2, 0, none⟩)) := hk 8 (by kernel_rfl)
        exact ok_load (wanted_of rfl rfl (hd 37 (by kernel_rfl))) rfl h (Q2 hC) Try.underlying30 rfl (by kernel_rfl) rfl
      · intro s v hC hk hd
        have h : s.tmps[9]? = some (.pointer (some ⟨g3, 0, none⟩)) := hk 9 (by kernel_rfl)
        exact ok_load (wanted_of rfl rfl (hd 37 (by kernel_rfl))) rfl h (Q3 hC) Try.underlying30 rfl (by kernel_rfl) rfl
      · intro s v hC hk hd
        have h0 : s.tmps[62]? = some (E4 Y) := hd 46 (by kernel_rfl)
        have h1 : s.tmps[63]? = some (E4 Z) := hd 47 (by kernel_rfl)
        exact ok_new hC.size (wanted_of rfl rfl (hd 37 (by kernel_rfl))) (by simp [execOp, Act.eval, h0, h1, go_sem])
      · intro s v hC hk hd
        obtain ⟨h0b, h0, h0l, h0h⟩ := holds_new (s.tmps[64]?) v (.cells #[.int .u64 (w0 Y : Nat), .int .u64 (w1 Y : Nat), .int .u64 (w2 Y : Nat), .int .u64 (w3 Y : Nat), .int .u64 (w0 Z : Nat), .int .u64 (w1 Z : Nat), .int .u64 (w2 Z : Nat), .int .u64 (w3 Z : Nat)] 30) (fun b => .slice (some ⟨b, 0, none⟩) 2 2) (hd 48 (by kernel_rfl))
        exact ok_call (wanted_of rfl rfl (hd 37 (by kernel_rfl))) (by simp [Act.eval, h0, go_sem]) (mul2 Y Z hY hZ v h0b h0h)
      · intro s v hC hk hd
        have h0 : s.tmps[61]? = some (E4 X) := hd 45 (by kernel_rfl)
        have h1 : s.tmps[65]? = some (E4 (Y * Z % pN)) := hd 49 (by kernel_rfl)
        exact ok_new hC.size (wanted_of rfl rfl (hd 37 (by kernel_rfl))) (by simp [execOp, Act.eval, h0, h1, go_sem])
      · intro s v hC hk hd
        obtain ⟨h0b, h0, h0l, h0h⟩ := holds_new (s.tmps[66]?) v (.cells #[.int .u64 (w0 X : Nat), .int .u64 (w1 X : Nat), .int .u64 (w2 X : Nat), .int .u64 (w3 X : Nat), .int .u64 (w0 (Y * Z % pN) : Nat), .int .u64 (w1 (Y * Z % pN) : Nat), .int .u64 (w2 (Y * Z % pN) : Nat), .int .u64 (w3 (Y * Z % pN) : Nat)] 30) (fun b => .slice (some ⟨b, 0, none⟩) 2 2) (hd 50 (by kernel_rfl))
        exact ok_call (wanted_of rfl rfl (hd 37 (by kernel_rfl))) (by simp [Act.eval, h0, go_sem]) (mul2 X (Y * Z % pN) hX (Nat.mod_lt _ pN_pos) v h0b h0h)
      · intro s v hC hk hd
        have h0 : s.tmps[60]? = some (E4 ((X * Y % pN) * Z % pN)) := hd 44 (by kernel_rfl)
        have h1 : s.tmps[67]? = some (E4 (X * (Y * Z % pN) % pN)) := hd 51 (by kernel_rfl)
        exact ok_call (wanted_of rfl rfl (hd 37 (by kernel_rfl))) (by simp [Act.eval, h0, h1, go_sem]) (same_eq ((X * Y % pN) * Z % pN) (X * (Y * Z % pN) % pN) (Nat.mod_lt _ pN_pos) (Nat.mod_lt _ pN_pos) true (beq_iff_eq.2 (HS3)) v)
      · intro s v hC hk hd
        have h0 : s.tmps[53]? = some (.bool true) := hd 37 (by kernel_rfl)
        have h1 : s.tmps[68]? = some (.bool true) := hd 52 (by kernel_rfl)
        exact ok_value rfl (by simp [execOp, Act.eval, h0, h1, go_sem])
      · intro s v hC hk hd
        have h : s.tmps[69]? = some (.bool true) := hd 53 (by kernel_rfl)
        exact ok_value rfl (by simp [execOp, Act.eval, h])
      · intro s v hC hk hd
        have h : s.tmps[7]? = some (.pointer (some ⟨g1, 0, none⟩)) := hk 7 (by kernel_rfl)
        exact ok_load (wanted_of rfl rfl (hd 54 (by kernel_rfl))) rfl h (Q1 hC) Try.underlying30 rfl (by kernel_rfl) rfl
      · intro s v hC hk hd
        have h : s.tmps[8]? = some (.pointer (some ⟨g2, 0, none⟩)) := hk 8 (by kernel_rfl)
        exact ok_load (wanted_of rfl rfl (hd 54 (by kernel_rfl))) rfl h (Q2 hC) Try.underlying30 rfl (by kernel_rfl) rfl
      · intro s v hC hk hd
        have h : s.tmps[9]? = some (.pointer (some ⟨g3, 0, none⟩)) := hk 9 (by kernel_rfl)
        exact ok_load (wanted_of rfl rfl (hd 54 (by kernel_rfl))) rfl h (Q3 hC) Try.underlying30 rfl (by kernel_rfl) rfl
      · intro s v hC hk hd
        have h0 : s.tmps[72]? = some (E4 Y) := hd 56 (by kernel_rfl)
        have h1 : s.tmps[73]? = some (E4 Z) := hd 57 (by kernel_rfl)
        exact ok_new hC.size (wanted_of rfl rfl (hd 54 (by kernel_rfl))) (by simp [execOp, Act.eval, h0, h1, go_sem])
      · intro s v hC hk hd
        obtain ⟨h0b, h0, h0l, h0h⟩ := holds_new (s.tmps[74]?) v (.cells #[.int .u64 (w0 Y : Nat), .int .u64 (w1 Y : Nat), .int .u64 (w2 Y : Nat), .int .u64 (w3 Y : Nat), .int .u64 (w0 Z : Nat), .int .u64 (w1 Z : Nat), .int .u64 (w2 Z : Nat), .int .u64 (w3 Z : Nat)] 30) (fun b => .slice (some ⟨b, 0, none⟩) 2 2) (hd 58 (by kernel_rfl))
        exact ok_call (wanted_of rfl rfl (hd 54 (by kernel_rfl))) (by simp [Act.eval, h0, go_sem]) (add2 Y Z hY hZ v h0b h0h)
      · intro s v hC hk hd
        have h0 : s.tmps[71]? = some (E4 X) := hd 55 (by kernel_rfl)
        have h1 : s.tmps[75]? = some (E4 ((Y + Z) % pN)) := hd 59 (by kernel_rfl)
        exact ok_new hC.size (wanted_of rfl rfl (hd 54 (by kernel_rfl))) (by simp [execOp, Act.eval, h0, h1, go_sem])
      · intro s v hC hk hd
        obtain ⟨h0b, h0, h0l, h0h⟩ := holds_new (s.tmps[76]?) v (.cells #[.int .u64 (w0 X : Nat), .int .u64 (w1 X : Nat), .int .u64 (w2 X : Nat), .int .u64 (w3 X : Nat), .int .u64 (w0 ((Y + Z) % pN) : Nat), .int .u64 (w1 ((Y + Z) % pN) : Nat), .int .u64 (w2 ((Y + Z) % pN) : Nat), .int .u64 (w3 ((Y + Z) % pN) : Nat)] 30) (fun b => .slice (some ⟨b, 0, none⟩) 2 2) (hd 60 (by kernel_rfl))
        exact ok_call (wanted_of rfl rfl (hd 54 (by kernel_rfl))) (by simp [Act.eval, h0, go_sem]) (mul2 X ((Y + Z) % pN) hX (Nat.mod_lt _ pN_pos) v h0b h0h)
      · intro s v hC hk hd
        have h : s.tmps[7]? = some (.pointer (some ⟨g1, 0, none⟩)) := hk 7 (by kernel_rfl)
        exact ok_load (wanted_of rfl rfl (hd 54 (by kernel_rfl))) rfl h (Q1 hC) Try.underlying30 rfl (by kernel_rfl) rfl
      · intro s v hC hk hd
        have h : s.tmps[8]? = some (.pointer (some ⟨g2, 0, none⟩)) := hk 8 (by kernel_rfl)
        exact ok_load (wanted_of rfl rfl (hd 54 (by kernel_rfl))) rfl h (Q2 hC) Try.underlying30 rfl (by kernel_rfl) rfl
      · intro s v hC hk hd
        have h0 : s.tmps[78]? = some (E4 X) := hd 62 (by kernel_rfl)
        have h1 : s.tmps[79]? = some (E4 Y) := hd 63 (by kernel_rfl)
        exact ok_new hC.size (wanted_of rfl rfl (hd 54 (by kernel_rfl))) (by simp [execOp, Act.eval, h0, h1, go_sem])
      · intro s v hC hk hd
        obtain ⟨h0b, h0, h0l, h0h⟩ := holds_new (s.tmps[80]?) v (.cells #[.int .u64 (w0 X : Nat), .int .u64 (w1 X : Nat), .int .u64 (w2 X : Nat), .int .u64 (w3 X : Nat), .int .u64 (w0 Y : Nat), .int .u64 (w1 Y : Nat), .int .u64 (w2 Y : Nat), .int .u64 (w3 Y : Nat)] 30) (fun b => .slice (some ⟨b, 0, none⟩) 2 2) (hd 64 (by kernel_rfl))
        exact ok_call (wanted_of rfl rfl (hd 54 (by kernel_rfl))) (by simp [Act.eval, h0, go_sem]) (mul2 X Y hX hY v h0b h0h)
      · intro s v hC hk hd
        have h : s.tmps[7]? = some (.pointer (some ⟨g1, 0, none⟩)) := hk 7 (by kernel_rfl)
        exact ok_load (wanted_of rfl rfl (hd 54 (by kernel_rfl))) rfl h (Q1 hC) Try.underlying30 rfl (by kernel_rfl) rfl
      · intro s v hC hk hd
        have h : s.tmps[9]? = some (.pointer (some ⟨g3, 0, none⟩)) := hk 9 (by kernel_rfl)
        exact ok_load (wanted_of rfl rfl (hd 54 (by kernel_rfl))) rfl h (Q3 hC) Try.underlying30 rfl (by kernel_rfl) rfl
      · intro s v hC hk hd
        have h0 : s.tmps[82]? = some (E4 X) := hd 66 (by kernel_rfl)
        have h1 : s.tmps[83]? = some (E4 Z) := hd 67 (by kernel_rfl)
        exact ok_new hC.size (wanted_of rfl rfl (hd 54 (by kernel_rfl))) (by simp [execOp, Act.eval, h0, h1, go_sem])
      · intro s v hC hk hd
        obtain ⟨h0b, h0, h0l, h0h⟩ := holds_new (s.tmps[84]?) v (.cells #[.int .u64 (w0 X : Nat), .int .u64 (w1 X : Nat), .int .u64 (w2 X : Nat), .int .u64 (w3 X : Nat), .int .u64 (w0 Z : Nat), .int .u64 (w1 Z : Nat), .int .u64 (w2 Z : Nat), .int .u64 (w3 Z : Nat)] 30) (fun b => .slice (some ⟨b, 0, none⟩) 2 2) (hd 68 (by kernel_rfl))
        exact ok_call (wanted_of rfl rfl (hd 54 (by kernel_rfl))) (by simp [Act.eval, h0, go_sem]) (mul2 X Z hX hZ v h0b h0h)
      · intro s v hC hk hd
        have h0 : s.tmps[81]? = some (E4 (X * Y % pN)) := hd 65 (by kernel_rfl)
        have h1 : s.tmps[85]? = some (E4 (X * Z % pN)) := hd 69 (by kernel_rfl)
        exact ok_new hC.size (wanted_of rfl rfl (hd 54 (by kernel_rfl))) (by simp [execOp, Act.eval, h0, h1, go_sem])
      · intro s v hC hk hd
        obtain ⟨h0b, h0, h0l, h0h⟩ := holds_new (s.tmps[86]?) v (.cells #[.int .u64 (w0 (X * Y % pN) : Nat), .int .u64 (w1 (X * Y % pN) : Nat), .int .u64 (w2 (X * Y % pN) : Nat), .int .u64 (w3 (X * Y % pN) : Nat), .int .u64 (w0 (X * Z % pN) : Nat), .int .u64 (w1 (X * Z % pN) : Nat), .int .u64 (w2 (X * Z % pN) : Nat), .int .u64 (w3 (X * Z % pN) : Nat)] 30) (fun b => .slice (some ⟨b, 0, none⟩) 2 2) (hd 70 (by kernel_rfl))
        exact ok_call (wanted_of rfl rfl (hd 54 (by kernel_rfl))) (by simp [Act.eval, h0, go_sem]) (add2 (X * Y % pN) (X * Z % pN) (Nat.mod_lt _ pN_pos) (Nat.mod_lt _ pN_pos) v h0b h0h)
      · intro s v hC hk hd
        have h0 : s.tmps[77]? = some (E4 (X * ((Y + Z) % pN) % pN)) := hd 61 (by kernel_rfl)
        have h1 : s.tmps[87]? = some (E4 (((X * Y % pN) + (X * Z % pN)) % pN)) := hd 71 (by kernel_rfl)
        exact ok_call (wanted_of rfl rfl (hd 54 (by kernel_rfl))) (by simp [Act.eval, h0, h1, go_sem]) (same_eq (X * ((Y + Z) % pN) % pN) (((X * Y % pN) + (X * Z % pN)) % pN) (Nat.mod_lt _ pN_pos) (Nat.mod_lt _ pN_pos) true (beq_iff_eq.2 (HS4)) v)
      · intro s v hC hk hd
        have h0 : s.tmps[70]? = some (.bool true) := hd 54 (by kernel_rfl)
        have h1 : s.tmps[88]? = some (.bool true) := hd 72 (by kernel_rfl)
        exact ok_value rfl (by simp [execOp, Act.eval, h0, h1, go_sem])
      · intro s v hC hk hd
        have h : s.tmps[89]? = some (.bool true) := hd 73 (by kernel_rfl)
        exact ok_value rfl (by simp [execOp, Act.eval, h])
      · intro s v hC hk hd
        have h : s.tmps[7]? = some (.pointer (some ⟨g1, 0, none⟩)) := hk 7 (by kernel_rfl)
        exact ok_load (wanted_of rfl rfl (hd 74 (by kernel_rfl))) rfl h (Q1 hC) Try.underlying30 rfl (by kernel_rfl) rfl
      · intro s v hC hk hd
        have h : s.tmps[8]? = some (.pointer (some ⟨g2, 0, none⟩)) := hk 8 (by kernel_rfl)
        exact ok_load (wanted_of rfl rfl (hd 74 (by kernel_rfl))) rfl h (Q2 hC) Try.underlying30 rfl (by kernel_rfl) rfl
      · intro s v hC hk hd
        have h0 : s.tmps[91]? = some (E4 X) := hd 75 (by kernel_rfl)
        have h1 : s.tmps[92]? = some (E4 Y) := hd 76 (by kernel_rfl)
        exact ok_call (wanted_of rfl rfl (hd 74 (by kernel_rfl))) (by simp [Act.eval, h0, h1, go_sem]) (sub_any X Y hX hY v)
      · intro s v hC hk hd
        have h : s.tmps[8]? = some (.pointer (some ⟨g2, 0, none⟩)) := hk 8 (by kernel_rfl)
        exact ok_load (wanted_of rfl rfl (hd 74 (by kernel_rfl))) rfl h (Q2 hC) Try.underlying30 rfl (by kernel_rfl) rfl
      · intro s v hC hk hd
        have h0 : s.tmps[93]? = some (E4 ((X + (pN - Y)) % pN)) := hd 77 (by kernel_rfl)
        have h1 : s.tmps[94]? = some (E4 Y) := hd 78 (by kernel_rfl)
        exact ok_new hC.size (wanted_of rfl rfl (hd 74 (by kernel_rfl))) (by simp [execOp, Act.eval, h0, h1, go_sem])
      · intro s v hC hk hd
        obtain ⟨h0b, h0, h0l, h0h⟩ := holds_new (s.tmps[95]?) v (.cells #[.int .u64 (w0 ((X + (pN - Y)) % pN) : Nat), .int .u64 (w1 ((X + (pN - Y)) % pN) : Nat), .int .u64 (w2 ((X + (pN - Y)) % pN) : Nat), .int .u64 (w3 ((X + (pN - Y)) % pN) : Nat), .int .u64 (w0 Y : Nat), .int .u64 (w1 Y : Nat), .int .u64 (w2 Y : Nat), .int .u64 (w3 Y : Nat)] 30) (fun b => .slice (some ⟨b, 0, none⟩) 2 2) (hd 79 (by kernel_rfl))
        exact ok_call (wanted_of rfl rfl (hd 74 (by kernel_rfl))) (by simp [Act.eval, h0, go_sem]) (add2 ((X + (pN - Y)) % pN) Y (Nat.mod_lt _ pN_pos) hY v h0b h0h)
      · intro s v hC hk hd
        have h : s.tmps[7]? = some (.pointer (some ⟨g1, 0, none⟩)) := hk 7 (by kernel_rfl)
        exact ok_load (wanted_of rfl rfl (hd 74 (by kernel_rfl))) rfl h (Q1 hC) Try.underlying30 rfl (by kernel_rfl) rfl
      · intro s v hC hk hd
        have h0 : s.tmps[96]? = some (E4 ((((X + (pN - Y)) % pN) + Y) % pN)) := hd 80 (by kernel_rfl)
        have h1 : s.tmps[97]? = some (E4 X) := hd 81 (by kernel_rfl)
        exact ok_call (wanted_of rfl rfl (hd 74 (by kernel_rfl))) (by simp [Act.eval, h0, h1, go_sem]) (same_eq ((((X + (pN - Y)) % pN) + Y) % pN) X (Nat.mod_lt _ pN_pos) hX true (beq_iff_eq.2 (HS5)) v)
      · intro s v hC hk hd
        have h0 : s.tmps[90]? = some (.bool true) := hd 74 (by kernel_rfl)
        have h1 : s.tmps[98]? = some (.bool true) := hd 82 (by kernel_rfl)
        exact ok_value rfl (by simp [execOp, Act.eval, h0, h1, go_sem])
      · intro s v hC hk hd
        have h : s.tmps[99]? = some (.bool true) := hd 83 (by kernel_rfl)
        exact ok_value rfl (by simp [execOp, Act.eval, h])
      · intro s v hC hk hd
        have h : s.tmps[7]? = some (.pointer (some ⟨g1, 0, none⟩)) := hk 7 (by kernel_rfl)
        exact ok_load (wanted_of rfl rfl (hd 84 (by kernel_rfl))) rfl h (Q1 hC) Try.underlying30 rfl (by kernel_rfl) rfl
      · intro s v hC hk hd
        have h : s.tmps[8]? = some (.pointer (some ⟨g2, 0, none⟩)) := hk 8 (by kernel_rfl)
        exact ok_load (wanted_of rfl rfl (hd 84 (by kernel_rfl))) rfl h (Q2 hC) Try.underlying30 rfl (by kernel_rfl) rfl
      · intro s v hC hk hd
        have h : s.tmps[9]? = some (.pointer (some ⟨g3, 0, none⟩)) := hk 9 (by kernel_rfl)
        exact ok_load (wanted_of rfl rfl (hd 84 (by kernel_rfl))) rfl h (Q3 hC) Try.underlying30 rfl (by kernel_rfl) rfl
      · intro s v hC hk hd
        have h0 : s.tmps[101]? = some (E4 X) := hd 85 (by kernel_rfl)
        have h1 : s.tmps[102]? = some (E4 Y) := hd 86 (by kernel_rfl)
        have h2 : s.tmps[103]? = some (E4 Z) := hd 87 (by kernel_rfl)
        exact ok_new hC.size (wanted_of rfl rfl (hd 84 (by kernel_rfl))) (by simp [execOp, Act.eval, h0, h1, h2, go_sem])
      · intro s v hC hk hd
        obtain ⟨h0b, h0, h0l, h0h⟩ := holds_new (s.tmps[104]?) v (.cells #[.int .u64 (w0 X : Nat), .int .u64 (w1 X : Nat), .int .u64 (w2 X : Nat), .int .u64 (w3 X : Nat), .int .u64 (w0 Y : Nat), .int .u64 (w1 Y : Nat), .int .u64 (w2 Y : Nat), .int .u64 (w3 Y : Nat), .int .u64 (w0 Z : Nat), .int .u64 (w1 Z : Nat), .int .u64 (w2 Z : Nat), .int .u64 (w3 Z : Nat)] 30) (fun b => .slice (some ⟨b, 0, none⟩) 3 3) (hd 88 (by kernel_rfl))
        exact ok_call (wanted_of rfl rfl (hd 84 (by kernel_rfl))) (by simp [Act.eval, h0, go_sem]) (add3 X Y Z hX hY hZ v h0b h0h)
      · intro s v hC hk hd
        have h : s.tmps[7]? = some (.pointer (some ⟨g1, 0, none⟩)) := hk 7 (by kernel_rfl)
        exact ok_load (wanted_of rfl rfl (hd 84 (by kernel_rfl))) rfl h (Q1 hC) Try.underlying30 rfl (by kernel_rfl) rfl
      · intro s v hC hk hd
        have h : s.tmps[8]? = some (.pointer (some ⟨g2, 0, none⟩)) := hk 8 (by kernel_rfl)
        exact ok_load (wanted_of rfl rfl (hd 84 (by kernel_rfl))) rfl h (Q2 hC) Try.underlying30 rfl (by kernel_rfl) rfl
      · intro s v hC hk hd
        have h : s.tmps[9]? = some (.pointer (some ⟨g3, 0, none⟩)) := hk 9 (by kernel_rfl)
        exact ok_load (wanted_of rfl rfl (hd 84 (by kernel_rfl))) rfl h (Q3 hC) Try.underlying30 rfl (by kernel_rfl) rfl
      · intro s v hC hk hd
        have h0 : s.tmps[107]? = some (E4 Y) := hd 91 (by kernel_rfl)
        have h1 : s.tmps[108]? = some (E4 Z) := hd 92 (by kernel_rfl)
        exact ok_new hC.size (wanted_of rfl rfl (hd 84 (by kernel_rfl))) (by simp [execOp, Act.eval, h0, h1, go_sem])
      · intro s v hC hk hd
        obtain ⟨h0b, h0, h0l, h0h⟩ := holds_new (s.tmps[109]?) v (.cells #[.int .u64 (w0 Y : Nat), .int .u64 (w1 Y : Nat), .int .u64 (w2 Y : Nat), .int .u64 (w3 Y : Nat), .int .u64 (w0 Z : Nat), .int .u64 (w1 Z : Nat), .int .u64 (w2 Z : Nat), .int .u64 (w3 Z : Nat)] 30) (fun b => .slice (some ⟨b, 0, none⟩) 2 2) (hd 93 (by kernel_rfl))
        exact ok_call (wanted_of rfl rfl (hd 84 (by kernel_rfl))) (by simp [Act.eval, h0, go_sem]) (add2 Y Z hY hZ v h0b h0h)
      · intro s v hC hk hd
        have h0 : s.tmps[106]? = some (E4 X) := hd 90 (by kernel_rfl)
        have h1 : s.tmps[110]? = some (E4 ((Y + Z) % pN)) := hd 94 (by kernel_rfl)
        exact ok_new hC.size (wanted_of rfl rfl (hd 84 (by kernel_rfl))) (by simp [execOp, Act.eval, h0, h1, go_sem])
      · intro s v hC hk hd
        obtain ⟨h0b, h0, h0l, h0h⟩ := holds_new (s.tmps[111]?) v (.cells #[.int .u64 (w0 X : Nat), .int .u64 (w1 X : Nat), .int .u64 (w2 X : Nat), .int .u64 (w3 X : Nat), .int .u64 (w0 ((Y + Z) % pN) : Nat), .int .u64 (w1 ((Y + Z) % pN) : Nat), .int .u64 (w2 ((Y + Z) % pN) : Nat), .int .u64 (w3 ((Y + Z) % pN) : Nat)] 30) (fun b => .slice (some ⟨b, 0, none⟩) 2 2) (hd 95 (by kernel_rfl))
        exact ok_call (wanted_of rfl rfl (hd 84 (by kernel_rfl))) (by simp [Act.eval, h0, go_sem]) (add2 X ((Y + Z) % pN) hX (Nat.mod_lt _ pN_pos) v h0b h0h)
      · intro s v hC hk hd
        have h0 : s.tmps[105]? = some (E4 (((X + Y) % pN + Z) % pN)) := hd 89 (by kernel_rfl)
        have h1 : s.tmps[112]? = some (E4 ((X + ((Y + Z) % pN)) % pN)) := hd 96 (by kernel_rfl)
        exact ok_call (wanted_of rfl rfl (hd 84 (by kernel_rfl))) (by simp [Act.eval, h0, h1, go_sem]) (same_eq (((X + Y) % pN + Z) % pN) ((X + ((Y + Z) % pN)) % pN) (Nat.mod_lt _ pN_pos) (Nat.mod_lt _ pN_pos) true (beq_iff_eq.2 (HS6)) v)
      · intro s v hC hk hd
        have h0 : s.tmps[100]? = some (.bool true) := hd 84 (by kernel_rfl)
        have h1 : s.tmps[113]? = some (.bool true) := hd 97 (by kernel_rfl)
        exact ok_value rfl (by simp [execOp, Act.eval, h0, h1, go_sem])
      · intro s v hC hk hd
        have h : s.tmps[114]? = some (.bool true) := hd 98 (by kernel_rfl)
        exact ok_value rfl (by simp [execOp, Act.eval, h])
      · intro s v hC hk hd
        have h : s.tmps[7]? = some (.pointer (some ⟨g1, 0, none⟩)) := hk 7 (by kernel_rfl)
        exact ok_load (wanted_of rfl rfl (hd 99 (by kernel_rfl))) rfl h (Q1 hC) Try.underlying30 rfl (by kernel_rfl) rfl
      · intro s v hC hk hd
        have h : s.tmps[8]? = some (.pointer (some ⟨g2, 0, none⟩)) := hk 8 (by kernel_rfl)
        exact ok_load (wanted_of rfl rfl (hd 99 (by kernel_rfl))) rfl h (Q2 hC) Try.underlying30 rfl (by kernel_rfl) rfl
      · intro s v hC hk hd
        have h : s.tmps[9]? = some (.pointer (some ⟨g3, 0, none⟩)) := hk 9 (by kernel_rfl)
        exact ok_load (wanted_of rfl rfl (hd 99 (by kernel_rfl))) rfl h (Q3 hC) Try.underlying30 rfl (by kernel_rfl) rfl
      · intro s v hC hk hd
        have h0 : s.tmps[116]? = some (E4 X) := hd 100 (by kernel_rfl)
        have h1 : s.tmps[117]? = some (E4 Y) := hd 101 (by kernel_rfl)
        have h2 : s.tmps[118]? = some (E4 Z) := hd 102 (by kernel_rfl)
        exact ok_new hC.size (wanted_of rfl rfl (hd 99 (by kernel_rfl))) (by simp [execOp, Act.eval, h0, h1, h2, go_sem])
      · intro s v hC hk hd
        obtain ⟨h0b, h0, h0l, h0h⟩ := holds_new (s.tmps[119]?) v (.cells #[.int .u64 (w0 X : Nat), .int .u64 (w1 X : Nat), .int .u64 (w2 X : Nat), .int .u64 (w3 X : Nat), .int .u64 (w0 Y : Nat), .int .u64 (w1 Y : Nat), .int .u64 (w2 Y : Nat), .int .u64 (w3 Y : Nat), .int .u64 (w0 Z : Nat), .int .u64 (w1 Z : Nat), .int .u64 (w2 Z : Nat), .int .u64 (w3 Z : Nat)] 30) (fun b => .slice (some ⟨b, 0, none⟩) 3 3) (hd 103 (by kernel_rfl))
        exact ok_call (wanted_of rfl rfl (hd 99 (by kernel_rfl))) (by simp [Act.eval, h0, go_sem]) (mul3 X Y Z hX hY hZ v h0b h0h)
      · intro s v hC hk hd
        have h : s.tmps[7]? = some (.pointer (some ⟨g1, 0, none⟩)) := hk 7 (by kernel_rfl)
        exact ok_load (wanted_of rfl rfl (hd 99 (by kernel_rfl))) rfl h (Q1 hC) Try.underlying30 rfl (by kernel_rfl) rfl
      · intro s v hC hk hd
        have h : s.tmps[8]? = some (.pointer (some ⟨g2, 0, none⟩)) := hk 8 (by kernel_rfl)
        exact ok_load (wanted_of rfl rfl (hd 99 (by kernel_rfl))) rfl h (Q2 hC) Try.underlying30 rfl (by kernel_rfl) rfl
      · intro s v hC hk hd
        have h : s.tmps[9]? = some (.pointer (some ⟨g3, 0, none⟩)) := hk 9 (by kernel_rfl)
        exact ok_load (wanted_of rfl rfl (hd 99 (by kernel_rfl))) rfl h (Q3 hC) Try.underlying30 rfl (by kernel_rfl) rfl
      · intro s v hC hk hd
        have h0 : s.tmps[122]? = some (E4 Y) := hd 106 (by kernel_rfl)
        have h1 : s.tmps[123]? = some (E4 Z) := hd 107 (by kernel_rfl)
        exact ok_new hC.size (wanted_of rfl rfl (hd 99 (by kernel_rfl))) (by simp [execOp, Act.eval, h0, h1, go_sem])
      · intro s v hC hk hd
        obtain ⟨h0b, h0, h0l, h0h⟩ := holds_new (s.tmps[124]?) v (.cells #[.int .u64 (w0 Y : Nat), .int .u64 (w1 Y : Nat), .int .u64 (w2 Y : Nat), .int .u64 (w3 Y : Nat), .int .u64 (w0 Z : Nat), .int .u64 (w1 Z : Nat), .int .u64 (w2 Z : Nat), .int .u64 (w3 Z : Nat)] 30) (fun b => .slice (some ⟨b, 0, none⟩) 2 2) (hd 108 (by kernel_rfl))
        exact ok_call (wanted_of rfl rfl (hd 99 (by kernel_rfl))) (by simp [Act.eval, h0, go_sem]) (mul2 Y Z hY hZ v h0b h0h)
      · intro s v hC hk hd
        have h0 : s.tmps[121]? = some (E4 X) := hd 105 (by kernel_rfl)
        have h1 : s.tmps[125]? = some (E4 (Y * Z % pN)) := hd 109 (by kernel_rfl)
        exact ok_new hC.size (wanted_of rfl rfl (hd 99 (by kernel_rfl))) (by simp [execOp, Act.eval, h0, h1, go_sem])
      · intro s v hC hk hd
        obtain ⟨h0b, h0, h0l, h0h⟩ := holds_new (s.tmps[126]?) v (.cells #[.int .u64 (w0 X : Nat), .int .u64 (w1 X : Nat), .int .u64 (w2 X : Nat), .int .u64 (w3 X : Nat), .int .u64 (w0 (Y * Z % pN) : Nat), .int .u64 (w1 (Y * Z % pN) : Nat), .int .u64 (w2 (Y * Z % pN) : Nat), .int .u64 (w3 (Y * Z % pN) : Nat)] 30) (fun b => .slice (some ⟨b, 0, none⟩) 2 2) (hd 110 (by kernel_rfl))
        exact ok_call (wanted_of rfl rfl (hd 99 (by kernel_rfl))) (by simp [Act.eval, h0, go_sem]) (mul2 X (Y * Z % pN) hX (Nat.mod_lt _ pN_pos) v h0b h0h)
      · intro s v hC hk hd
        have h0 : s.tmps[120]? = some (E4 ((X * Y % pN) * Z % pN)) := hd 104 (by kernel_rfl)
        have h1 : s.tmps[127]? = some (E4 (X * (Y * Z % pN) % pN)) := hd 111 (by kernel_rfl)
        exact ok_call (wanted_of rfl rfl (hd 99 (by kernel_rfl))) (by simp [Act.eval, h0, h1, go_sem]) (same_eq ((X * Y % pN) * Z % pN) (X * (Y * Z % pN) % pN) (Nat.mod_lt _ pN_pos) (Nat.mod_lt _ pN_pos) true (beq_iff_eq.2 (HS7)) v)
      · intro s v hC hk hd
        have h0 : s.tmps[115]? = some (.bool true) := hd 99 (by kernel_rfl)
        have h1 : s.tmps[128]? = some (.bool true) := hd 112 (by kernel_rfl)
        exact ok_value rfl (by simp [execOp, Act.eval, h0, h1, go_sem])
      · intro s v hC hk hd
        have h : s.tmps[129]? = some (.bool true) := hd 113 (by kernel_rfl)
        exact ok_value rfl (by simp [execOp, Act.eval, h])
      · intro s v hC hk hd
        exact ok_call (wanted_of rfl rfl (hd 114 (by kernel_rfl))) (by simp [go_sem]) (wakes_any v)
      · intro s v hC hk hd
        have h0 : s.tmps[130]? = some (.bool true) := hd 114 (by kernel_rfl)
        have h1 : s.tmps[131]? = some (.bool true) := hd 115 (by kernel_rfl)
        exact ok_value rfl (by simp [execOp, Act.eval, h0, h1, go_sem])
      · intro s v hC hk hd
        have h : s.tmps[132]? = some (.bool true) := hd 116 (by kernel_rfl)
        exact ok_value rfl (by simp [execOp, Act.eval, h])
    · intro b wB hC _ _
      simp [valsOf, valOf, putAll, Act.put]
      have B : Hid (Below w.heap.size w wB) := BB.out.trans (hC.mono BB.out.size)
      clear hC QQ1 QQ2 QQ3 BB Q1 Q2 Q3 HS0 HS1 HS2 HS3 HS4 HS5 HS6 HS7
      go_wp2_with fail
      go_ret
      exact ⟨rfl, B.out⟩
end Go.Proofs.Ytpgmaidbemndnaa
