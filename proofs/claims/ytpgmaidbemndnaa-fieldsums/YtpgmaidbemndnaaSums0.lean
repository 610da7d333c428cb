/- Add and Mul of package field, of none and of one alone. -/
import Derived.Test.YtpgmaidbemndnaaW8
namespace Go.Proofs.Ytpgmaidbemndnaa
open Go.RowKit

set_option maxHeartbeats 2000000 in
theorem add_nil (p : Option Addr) (c : Nat) (w : World) : Calls Try.prog 23 #[.slice p 0 c] w fun e w' => e = .returned (E4 0) ∧ Below w.heap.size w w' := by
  go_enter Try.func23, Try.ntmps23
  go_wp2_with fail
  refine (num_any 0 (by decide) _).mono ?_
  rintro e u ⟨rfl, hb⟩
  have Z : u.heap[w.heap.size]? = some (.cells #[.int .u64 0, .int .u64 0, .int .u64 0, .int .u64 0] 30) := keep hb (heap_new _ _)
  have B : Hid (Below w.heap.size w u) := (((Below.refl _ _).alloc (Nat.le_refl _) _).trans (hb.mono (by simp)) : Below w.heap.size w u)
  obtain ⟨q0, q1, q2, q3, g0, g1, g2, g3⟩ := cells4 Z
  clear Z hb
  go_wp2_with fail
  refine bodyPost_ret (v := E4 0) (by simp [results, Try.results23, go_sem, q0, q1, q2, q3]) rfl ⟨rfl, ?_⟩
  exact (((B.out.setCell (by simp) _).setCell (by simp) _).setCell (by simp) _).setCell (by simp) _
set_option maxHeartbeats 2000000 in
theorem mul_nil (p : Option Addr) (c : Nat) (w : World) : Calls Try.prog 24 #[.slice p 0 c] w fun e w' => e = .returned (E4 1) ∧ Below w.heap.size w w' := by
  go_enter Try.func24, Try.ntmps24
  go_wp2_with fail
  refine (num_any 1 (by decide) _).mono ?_
  rintro e u ⟨rfl, hb⟩
  have Z : u.heap[w.heap.size]? = some (.cells #[.int .u64 0, .int .u64 0, .int .u64 0, .int .u64 0] 30) := keep hb (heap_new _ _)
  have B : Hid (Below w.heap.size w u) := (((Below.refl _ _).alloc (Nat.le_refl _) _).trans (hb.mono (by simp)) : Below w.heap.size w u)
  obtain ⟨q0, q1, q2, q3, g0, g1, g2, g3⟩ := cells4 Z
  clear Z hb
  go_wp2_with fail
  refine bodyPost_ret (v := E4 1) (by simp [results, Try.results24, go_sem, q0, q1, q2, q3]) rfl ⟨rfl, ?_⟩
  exact (((B.out.setCell (by simp) _).setCell (by simp) _).setCell (by simp) _).setCell (by simp) _
set_option maxHeartbeats 2000000 in
theorem add_one (b x : Nat) (cs : Array Value) (T : TypeId) (fr : Nat × Nat) (h0 : cs[0]? = some (.int .u64 (w0 x : Nat))) (h1 : cs[1]? = some (.int .u64 (w1 x : Nat))) (h2 : cs[2]? = some (.int .u64 (w2 x : Nat))) (h3 : cs[3]? = some (.int .u64 (w3 x : Nat))) (w : World) (hb : w.heap[b]? = some (.cells cs T fr)) :
    Calls Try.prog 23 #[.slice (some ⟨b, 0, none⟩) 1 1] w fun e w' => e = .returned (E4 x) ∧ Below w.heap.size w w' := by
  have p0 := (cell_of hb 0).trans h0
  have p1 := (cell_of hb 1).trans h1
  have p2 := (cell_of hb 2).trans h2
  have p3 := (cell_of hb 3).trans h3
  have hlt := lt_of_block hb
  clear hb h0 h1 h2 h3
  go_enter Try.func23, Try.ntmps23
  go_wp2_with fail
  go_loopw [17] (fun i wr => i = .int .i64 0 ∧ wr.heap[w.heap.size]? = some (.cells #[.int .u64 0, .int .u64 0, .int .u64 0, .int .u64 0] 30) ∧ wr.heap[w.heap.size + 1]? = some (.cells #[.int .u64 (w0 x), .int .u64 (w1 x), .int .u64 (w2 x), .int .u64 (w3 x)] 28) ∧ Below w.heap.size w wr) (fun _ _ => 0)
  case atStart =>
    refine ⟨rfl, ?_, ?_, ?_⟩
    · rw [heap_old _ _ (by simp)]; exact heap_new _ _
    · exact heap_new' _ _ (by simp)
    · exact ((Below.refl _ _).alloc (Nat.le_refl _) _).alloc (by simp) _
  case round =>
    obtain ⟨rfl, Z, O, B⟩ := hrel
    have BB : Hid _ := B
    obtain ⟨r0, r1, r2, r3, f0, f1, f2, f3⟩ := cells4 O
    obtain ⟨q0, q1, q2, q3, g0, g1, g2, g3⟩ := cells4 Z
    clear Z O B p0 p1 p2 p3
    go_wp2_with fail
    refine bodyPost_ret (v := E4 x) (by simp [results, Try.results23, go_sem, q0, q1, q2, q3]) rfl ⟨rfl, ?_⟩
    exact (((BB.out.setCell (by simp) _).setCell (by simp) _).setCell (by simp) _).setCell (by simp) _
set_option maxHeartbeats 2000000 in
theorem mul_one (b x : Nat) (cs : Array Value) (T : TypeId) (fr : Nat × Nat) (h0 : cs[0]? = some (.int .u64 (w0 x : Nat))) (h1 : cs[1]? = some (.int .u64 (w1 x : Nat))) (h2 : cs[2]? = some (.int .u64 (w2 x : Nat))) (h3 : cs[3]? = some (.int .u64 (w3 x : Nat))) (w : World) (hb : w.heap[b]? = some (.cells cs T fr)) :
    Calls Try.prog 24 #[.slice (some ⟨b, 0, none⟩) 1 1] w fun e w' => e = .returned (E4 x) ∧ Below w.heap.size w w' := by
  have p0 := (cell_of hb 0).trans h0
  have p1 := (cell_of hb 1).trans h1
  have p2 := (cell_of hb 2).trans h2
  have p3 := (cell_of hb 3).trans h3
  have hlt := lt_of_block hb
  clear hb h0 h1 h2 h3
  go_enter Try.func24, Try.ntmps24
  go_wp2_with fail
  go_loopw [17] (fun i wr => i = .int .i64 0 ∧ wr.heap[w.heap.size]? = some (.cells #[.int .u64 0, .int .u64 0, .int .u64 0, .int .u64 0] 30) ∧ wr.heap[w.heap.size + 1]? = some (.cells #[.int .u64 (w0 x), .int .u64 (w1 x), .int .u64 (w2 x), .int .u64 (w3 x)] 28) ∧ Below w.heap.size w wr) (fun _ _ => 0)
  case atStart =>
    refine ⟨rfl, ?_, ?_, ?_⟩
    · rw [heap_old _ _ (by simp)]; exact heap_new _ _
    · exact heap_new' _ _ (by simp)
    · exact ((Below.refl _ _).alloc (Nat.le_refl _) _).alloc (by simp) _
  case round =>
    obtain ⟨rfl, Z, O, B⟩ := hrel
    have BB : Hid _ := B
    obtain ⟨r0, r1, r2, r3, f0, f1, f2, f3⟩ := cells4 O
    obtain ⟨q0, q1, q2, q3, g0, g1, g2, g3⟩ := cells4 Z
    clear Z O B p0 p1 p2 p3
    go_wp2_with fail
    refine bodyPost_ret (v := E4 x) (by simp [results, Try.results24, go_sem, q0, q1, q2, q3]) rfl ⟨rfl, ?_⟩
    exact (((BB.out.setCell (by simp) _).setCell (by simp) _).setCell (by simp) _).setCell (by simp) _
end Go.Proofs.Ytpgmaidbemndnaa
