/- The walk of Mul of the document's answer of layer 1. -/
import Derived.Test.YtpgmaidbemndnaaRef2
namespace Go.Proofs.Ytpgmaidbemndnaa
open Go.RowKit

theorem psum_single (k v : Nat) : ∀ n, psum (fun m => if m = k then v else 0) n = if k < n then v * 65536 ^ k else 0
  | 0 => by rw [if_neg (by omega)]; rfl
  | n + 1 => by
    show psum (fun m => if m = k then v else 0) n + (if n = k then v else 0) * 65536 ^ n = _
    rw [psum_single k v n]
    by_cases e : n = k
    · subst e; rw [if_neg (by omega), if_pos rfl, if_pos (by omega), Nat.zero_add]
    · rw [if_neg e, Nat.zero_mul, Nat.add_zero]
      by_cases h : k < n
      · rw [if_pos h, if_pos (by omega)]
      · rw [if_neg h, if_neg (by omega)]
theorem psum_upd (T : Nat → Nat) (k v n : Nat) (h : k < n) : psum (fun m => if m = k then T k + v else T m) n = psum T n + v * 65536 ^ k := by
  have e : psum (fun m => if m = k then T k + v else T m) n = psum (fun m => T m + (if m = k then v else 0)) n := psum_congr n fun j _ => by
    by_cases e : j = k
    · rw [if_pos e, if_pos e, e]
    · rw [if_neg e, if_neg e, Nat.add_zero]
  rw [e, psum_add, psum_single, if_pos h]
/-- Where the two loops stand. -/
structure MulI (F G : Nat → Nat) (i k : Nat) (T : Nat → Nat) : Prop where
  sum : psum T 32 = psum F i * psum G 16 + F i * 65536 ^ i * psum G k
  bd : ∀ m, T m ≤ (16 * i + k) * 4294967296
theorem MulI.start (F G : Nat → Nat) : MulI F G 0 0 (fun _ => 0) := ⟨by simp [psum], fun _ => Nat.zero_le _⟩
set_option maxRecDepth 100000 in
theorem MulI.step {F G T : Nat → Nat} {i k : Nat} (h : MulI F G i k T) (hi : i < 16) (hk : k < 16) (hF : F i < 65536) (hG : G k < 65536) : MulI F G i (k + 1) (fun m => if m = i + k then T (i + k) + F i * G k else T m) := by
  have hp : F i * G k ≤ 4294967296 := Nat.le_trans (Nat.mul_le_mul (Nat.le_of_lt hF) (Nat.le_of_lt hG)) (by decide)
  refine ⟨?_, fun m => ?_⟩
  · rw [psum_upd T (i + k) _ 32 (by omega), h.sum]
    show _ = psum F i * psum G 16 + F i * 65536 ^ i * (psum G k + G k * 65536 ^ k)
    rw [Nat.mul_add, Nat.add_assoc, Nat.pow_add]
    congr 2
    rw [Nat.mul_assoc, Nat.mul_assoc, Nat.mul_left_comm (G k)]
  · have := h.bd m
    have h2 := h.bd (i + k)
    show (if m = i + k then T (i + k) + F i * G k else T m) ≤ _
    rw [← Nat.add_assoc, Nat.add_mul, Nat.one_mul]
    by_cases e : m = i + k
    · rw [if_pos e]; exact Nat.add_le_add h2 hp
    · rw [if_neg e]; exact Nat.le_trans this (Nat.le_add_right _ _)
theorem MulI.next {F G T : Nat → Nat} {i : Nat} (h : MulI F G i 16 T) : MulI F G (i + 1) 0 T := by
  refine ⟨?_, fun m => by have := h.bd m; omega⟩
  rw [h.sum]
  show _ = (psum F i + F i * 65536 ^ i) * psum G 16 + _ * 0
  rw [Nat.add_mul, Nat.mul_zero, Nat.add_zero]
theorem mul_fold (T : Nat → Nat) : psum (fun j => T j + 38 * T (j + 16)) 16 % pN = psum T 32 % pN := by
  have e1 : psum (fun j => T j + 38 * T (j + 16)) 16 = psum T 16 + 38 * psum (fun j => T (16 + j)) 16 := by
    rw [psum_add T (fun j => 38 * T (j + 16)), psum_scale 38 (fun j => T (j + 16))]
    rw [show psum (fun j => T (j + 16)) 16 = psum (fun j => T (16 + j)) 16 from psum_congr 16 fun j _ => by rw [Nat.add_comm]]
  have e2 : psum T 32 = psum T 16 + 65536 ^ 16 * psum (fun j => T (16 + j)) 16 := psum_split T 16 16
  rw [e1, e2, show (65536 : Nat) ^ 16 = 38 + pN * 2 by decide, Nat.add_mul, Nat.mul_assoc, ← Nat.add_assoc, Nat.add_mul_mod_self_left]

set_option maxRecDepth 100000 in
set_option maxHeartbeats 8000000 in
theorem rmul_raw (F G : Nat → Nat) (hF : ∀ j, F j < 65536) (hG : ∀ j, G j < 65536) (c1 c2 : Array Value) (hc1 : c1 = ca 16 F) (hc2 : c2 = ca 16 G) (w : World) :
    Calls Try.prog 22 #[.agg c1, .agg c2] w fun e w' => e = .returned (.agg (ca 16 (dg (psum F 16 * psum G 16 % pN)))) ∧ Below w.heap.size w w' := by
  have HF : Hid _ := hF
  have HG : Hid _ := hG
  have C1 : Hid _ := hc1
  have C2 : Hid _ := hc2
  obtain ⟨n, hn⟩ : ∃ n, psum F 16 * psum G 16 % pN = n := ⟨_, rfl⟩
  rw [hn]
  have HN : Hid _ := hn
  clear hF hG hc1 hc2 hn
  go_enter Try.func22, Try.ntmps22
  go_upto_region 2 with (refine wpList_store_blk (b := w.heap.size + 1 + 1 + 1) rfl rfl rfl rfl (heap_new' _ _ (by simp)) (by kernel_rfl) rfl rfl (by simp [Value.oneCell']) ?_)
  generalize hW : World.setCells _ _ 0 _ = W
  have X0 : Hid (W.heap[w.heap.size]? = some (.cells (ca 16 F) 33)) := (by rw [← hW]; exact (heap_setCells_ne (by omega) _ _ _).trans ((heap_old _ _ (by simp; omega)).trans ((heap_old _ _ (by simp; omega)).trans ((heap_old _ _ (by simp)).trans ((heap_new _ _).trans (cells_eq C1.out))))) : W.heap[w.heap.size]? = some (.cells (ca 16 F) 33))
  have Y0 : Hid (W.heap[w.heap.size + 1]? = some (.cells (ca 16 G) 33)) := (by rw [← hW]; exact (heap_setCells_ne (by omega) _ _ _).trans ((heap_old _ _ (by simp)).trans ((heap_old _ _ (by simp)).trans ((heap_new' _ _ (by simp)).trans (cells_eq C2.out)))) : W.heap[w.heap.size + 1]? = some (.cells (ca 16 G) 33))
  obtain ⟨zs, Z0', hzs⟩ : ∃ zs, W.heap[w.heap.size + 1 + 1]? = some (.cells zs 33) ∧ zs.size = 16 := ⟨_, by rw [← hW]; exact (heap_setCells_ne (by omega) _ _ _).trans ((heap_old _ _ (by simp)).trans (heap_new' _ _ (by simp))), rfl⟩
  have T0 : Hid (W.heap[w.heap.size + 1 + 1 + 1]? = some (.cells (ca 32 (fun _ => 0)) 60)) := (by rw [← hW]; exact (heap_setCells_all _ (heap_new' _ _ (by simp)) rfl).trans (by rfl) : W.heap[w.heap.size + 1 + 1 + 1]? = some (.cells (ca 32 (fun _ => 0)) 60))
  have B0 : Hid (Below w.heap.size w W) := (by rw [← hW]; exact below_setCells (by omega) _ _ _ (((((Below.refl _ _).alloc (Nat.le_refl _) _).alloc (by simp) _).alloc (by simp; omega) _).alloc (by simp; omega) _) : Below w.heap.size w W)
  have Z0 : Hid _ := Z0'
  have SZ : Hid _ := hzs
  clear hW Z0' hzs C1 C2
  go_wp2_with fail
  go_loopw [6] (fun t wr => ∃ (i : Nat) (T : Nat → Nat), i ≤ 16 ∧ t = .int .i64 i ∧ wr.heap[w.heap.size]? = some (.cells (ca 16 F) 33) ∧ wr.heap[w.heap.size + 1]? = some (.cells (ca 16 G) 33) ∧ wr.heap[w.heap.size + 1 + 1]? = some (.cells zs 33) ∧ wr.heap[w.heap.size + 1 + 1 + 1]? = some (.cells (ca 32 T) 60) ∧ MulI F G i 0 T ∧ Below w.heap.size w wr) (fun t _ => 16 - (intOf t).toNat)
  case atStart => exact ⟨0, _, by omega, rfl, X0.out, Y0.out, Z0.out, T0.out, MulI.start F G, B0.out⟩
  case round =>
    obtain ⟨i, T, hi, rfl, X, Y, Z, TT, J, B⟩ := hrel
    have X1' : Hid _ := X
    have Y1' : Hid _ := Y
    have Z1' : Hid _ := Z
    have T1' : Hid _ := TT
    have J1' : Hid _ := J
    have B1' : Hid _ := B
    clear X Y Z TT J B X0 Y0 Z0 T0 B0
    by_cases hlti : i < 16
    · have i16 : (i : Int) < 16 := by omega
      go_wp2_with fail
      go_loopw [7] (fun t wx => ∃ (k : Nat) (T : Nat → Nat), k ≤ 16 ∧ t = .int .i64 k ∧ wx.heap[w.heap.size]? = some (.cells (ca 16 F) 33) ∧ wx.heap[w.heap.size + 1]? = some (.cells (ca 16 G) 33) ∧ wx.heap[w.heap.size + 1 + 1]? = some (.cells zs 33) ∧ wx.heap[w.heap.size + 1 + 1 + 1]? = some (.cells (ca 32 T) 60) ∧ MulI F G i k T ∧ Below w.heap.size w wx) (fun t _ => 16 - (intOf t).toNat)
      case atStart => exact ⟨0, _, by omega, rfl, X1'.out, Y1'.out, Z1'.out, T1'.out, J1'.out, B1'.out⟩
      case round =>
        obtain ⟨k, T, hk, rfl, X, Y, Z, TT, J, B⟩ := hrel
        have X1 : Hid _ := X
        have Y1 : Hid _ := Y
        have Z1 : Hid _ := Z
        have T1 : Hid _ := TT
        have J1 : Hid _ := J
        have B1 : Hid _ := B
        clear X Y Z TT J B X1' Y1' Z1' T1' J1' B1'
        by_cases hlt : k < 16
        · have k16 : (k : Int) < 16 := by omega
          obtain ⟨m, hm⟩ : ∃ m, i + k = m := ⟨_, rfl⟩
          have hm32 : m < 32 := by omega
          have m32 : (m : Int) < 32 := by omega
          have EM : Hid (IntKind.i64.wrap ((i : Int) + (k : Int)) = (m : Int)) := (by rw [IntKind.wrap_i64]; omega : IntKind.i64.wrap ((i : Int) + (k : Int)) = (m : Int))
          have qx := (cell_of X1.out i).trans (ca_get 16 _ i hlti)
          have qy := (cell_of Y1.out k).trans (ca_get 16 _ k hlt)
          have qz := (cell_of T1.out m).trans (ca_get 32 _ m hm32)
          have h1 := HF.out i
          have h2 := HG.out k
          have h3 := J1.out.bd m
          have J2' := J1.out.step hlti hlt h1 h2
          rw [hm] at J2'
          have h4 : F i * G k ≤ 65535 * 65535 := Nat.mul_le_mul (by omega) (by omega)
          obtain ⟨p, hp⟩ : ∃ p, F i * G k = p := ⟨_, rfl⟩
          obtain ⟨s, hs⟩ : ∃ s, T m + p = s := ⟨_, rfl⟩
          rw [hp] at J2' h4
          rw [hs] at J2'
          have J2 : Hid _ := J2'
          have E2 : Hid (IntKind.u64.wrap ((T m : Nat) + (p : Int)) = (s : Int)) := (by rw [addN, wrapN _ (by omega), hs] : IntKind.u64.wrap ((T m : Nat) + (p : Int)) = (s : Int))
          have E1 : Hid (IntKind.u64.wrap ((F i : Nat) * (G k : Nat)) = (p : Int)) := (by rw [show ((F i : Nat) : Int) * ((G k : Nat) : Int) = ((F i * G k : Nat) : Int) by simp, hp, wrapN _ (by omega)] : IntKind.u64.wrap ((F i : Nat) * (G k : Nat)) = (p : Int))
          clear h1 h2 h3 h4 hp hs J2' J1
          generalize F i = x at *
          generalize G k = y at *
          generalize T m = z at *
          clear hm
          go_upto_region 8 with fail
          refine region_list wr.heap.size (C := fun w' => Below wr.heap.size wr w') [.inl (.int .i64 (i : Nat)), .inl (.int .i64 (k : Nat)), .inl (.int .i64 (m : Nat)), .inl (.pointer (some ⟨w.heap.size + 1 + 1 + 1, m, none⟩)), .inl (.int .u64 (z : Nat)), .inl (.int .i64 (i : Nat)), .inl (.pointer (some ⟨w.heap.size, i, none⟩)), .inl (.int .u64 (x : Nat)), .inl (.int .i64 (k : Nat)), .inl (.pointer (some ⟨w.heap.size + 1, k, none⟩)), .inl (.int .u64 (y : Nat)), .inl (.int .u64 (p : Nat)), .inl (.int .u64 (s : Nat)), .inl (.pointer (some ⟨w.heap.size + 1 + 1 + 1, m, none⟩))] [] (by kernel_rfl) (by kernel_rfl) ⟨rfl, rfl, rfl, Nat.le_refl _, fun _ _ => rfl⟩
            (fun w1 w2 h1 h2 => h1.trans (h2.mono h1.size)) (fun i h => by simp at h) ?_ ?_
          · refine ⟨?_, ?_, ?_, ?_, ?_, ?_, ?_, ?_, ?_, ?_, ?_, ?_, ?_, ?_, trivial⟩
            · intro s v hC hk hd
              have h : s.tmps[6]? = some (.int .i64 (i : Nat)) := hk 6 (by kernel_rfl)
              exact ok_value rfl (by simp [execOp, Act.eval, h])
            · intro s v hC hk hd
              have h : s.tmps[7]? = some (.int .i64 (k : Nat)) := hk 7 (by kernel_rfl)
              exact ok_value rfl (by simp [execOp, Act.eval, h])
            · intro s v hC hk hd
              have h : s.tmps[19]? = some (.int .i64 (i : Nat)) := hd 0 (by kernel_rfl)
              have h2 : s.tmps[20]? = some (.int .i64 (k : Nat)) := hd 1 (by kernel_rfl)
              exact ok_value rfl (by simp [execOp, Act.eval, h, h2, go_sem, EM.out])
            · intro s v hC hk hd
              have h : s.tmps[5]? = some (.pointer (some ⟨w.heap.size + 1 + 1 + 1, 0, none⟩)) := hk 5 (by kernel_rfl)
              have h2 : s.tmps[21]? = some (.int .i64 (m : Nat)) := hd 2 (by kernel_rfl)
              exact ok_value rfl (by simp [execOp, Act.eval, h, h2, go_sem, m32])
            · intro s v hC hk hd
              have h : s.tmps[22]? = some (.pointer (some ⟨w.heap.size + 1 + 1 + 1, m, none⟩)) := hd 3 (by kernel_rfl)
              have hc := (hC.cell (p := ⟨w.heap.size + 1 + 1 + 1, m, none⟩) (lt_of_block T1.out)).trans qz
              exact ok_value rfl (by simp [execOp, Act.eval, h, go_sem, hc])
            · intro s v hC hk hd
              have h : s.tmps[6]? = some (.int .i64 (i : Nat)) := hk 6 (by kernel_rfl)
              exact ok_value rfl (by simp [execOp, Act.eval, h])
            · intro s v hC hk hd
              have h : s.tmps[2]? = some (.pointer (some ⟨w.heap.size, 0, none⟩)) := hk 2 (by kernel_rfl)
              have h2 : s.tmps[24]? = some (.int .i64 (i : Nat)) := hd 5 (by kernel_rfl)
              exact ok_value rfl (by simp [execOp, Act.eval, h, h2, go_sem, i16])
            · intro s v hC hk hd
              have h : s.tmps[25]? = some (.pointer (some ⟨w.heap.size, i, none⟩)) := hd 6 (by kernel_rfl)
              have hc := (hC.cell (p := ⟨w.heap.size, i, none⟩) (lt_of_block X1.out)).trans qx
              exact ok_value rfl (by simp [execOp, Act.eval, h, go_sem, hc])
            · intro s v hC hk hd
              have h : s.tmps[7]? = some (.int .i64 (k : Nat)) := hk 7 (by kernel_rfl)
              exact ok_value rfl (by simp [execOp, Act.eval, h])
            · intro s v hC hk hd
              have h : s.tmps[3]? = some (.pointer (some ⟨w.heap.size + 1, 0, none⟩)) := hk 3 (by kernel_rfl)
              have h2 : s.tmps[27]? = some (.int .i64 (k : Nat)) := hd 8 (by kernel_rfl)
              exact ok_value rfl (by simp [execOp, Act.eval, h, h2, go_sem, k16])
            · intro s v hC hk hd
              have h : s.tmps[28]? = some (.pointer (some ⟨w.heap.size + 1, k, none⟩)) := hd 9 (by kernel_rfl)
              have hc := (hC.cell (p := ⟨w.heap.size + 1, k, none⟩) (lt_of_block Y1.out)).trans qy
              exact ok_value rfl (by simp [execOp, Act.eval, h, go_sem, hc])
            · intro s v hC hk hd
              have h : s.tmps[26]? = some (.int .u64 (x : Nat)) := hd 7 (by kernel_rfl)
              have h2 : s.tmps[29]? = some (.int .u64 (y : Nat)) := hd 10 (by kernel_rfl)
              exact ok_value rfl (by simp [execOp, Act.eval, h, h2, go_sem, E1.out])
            · intro s v hC hk hd
              have h : s.tmps[23]? = some (.int .u64 (z : Nat)) := hd 4 (by kernel_rfl)
              have h2 : s.tmps[30]? = some (.int .u64 (p : Nat)) := hd 11 (by kernel_rfl)
              exact ok_value rfl (by simp [execOp, Act.eval, h, h2, go_sem, E2.out])
            · intro s v hC hk hd
              have h : s.tmps[5]? = some (.pointer (some ⟨w.heap.size + 1 + 1 + 1, 0, none⟩)) := hk 5 (by kernel_rfl)
              have h2 : s.tmps[21]? = some (.int .i64 (m : Nat)) := hd 2 (by kernel_rfl)
              exact ok_value rfl (by simp [execOp, Act.eval, h, h2, go_sem, m32])
          · intro b wA hC _ _
            simp [valsOf, valOf, putAll, Act.put]
            have X2 : Hid _ := keep hC X1.out
            have Y2 : Hid _ := keep hC Y1.out
            have Z2 : Hid _ := keep hC Z1.out
            have T2 : Hid _ := keep hC T1.out
            have B2 : Hid (Below w.heap.size w wA) := B1.out.trans (hC.mono B1.out.size)
            clear hC X1 Y1 Z1 T1 B1 qx qy qz E1 E2 EM
            have q := (cell_of T2.out m).trans (ca_get 32 _ m hm32)
            have f := frozen_of T2.out m
            go_wp2_with fail
            go_roundw
            case rel =>
              exact ⟨k + 1, _, by omega, by go_num, (heap_set_ne _ _ (by omega)).trans X2.out, (heap_set_ne _ _ (by omega)).trans Y2.out, (heap_set_ne _ _ (by omega)).trans Z2.out, (heap_set T2.out m _).trans (cells_eq (ca_set 32 _ m s hm32)), J2.out, B2.out.setCell (by simp; omega) _⟩
            case measure => simp [intOf]; omega
        · have e : k = 16 := by omega
          subst e
          have J2 : Hid _ := J1.out.next
          clear hk hlt J1
          go_wp2_with fail
          exact ⟨⟨i + 1, T, by omega, by go_num, X1.out, Y1.out, Z1.out, T1.out, J2.out, B1.out⟩, by simp [intOf]; omega⟩
    · have e : i = 16 := by omega
      subst e
      obtain ⟨h, hh⟩ : ∃ h, h = wr.heap.size := ⟨_, rfl⟩
      have ht := lt_of_block T1'.out
      have hz := lt_of_block Z1'.out
      clear hi hlti X1' Y1'
      go_upto_region 10 with (refine wpList_store_blk (b := wr.heap.size) rfl rfl rfl rfl (heap_new' _ _ (by simp)) (by kernel_rfl) rfl rfl (by simp [Value.oneCell']) ?_)
      generalize hW : World.setCells _ _ 0 _ = W1
      obtain ⟨g, hg⟩ : ∃ g, wr.heap.size = g := ⟨_, rfl⟩
      have Z0 : Hid (W1.heap[w.heap.size + 1 + 1]? = some (.cells zs 33)) := (by rw [← hW]; exact (heap_setCells_ne (by omega) _ _ _).trans ((heap_old _ _ hz).trans Z1'.out) : W1.heap[w.heap.size + 1 + 1]? = some (.cells zs 33))
      have T0 : Hid (W1.heap[w.heap.size + 1 + 1 + 1]? = some (.cells (ca 32 T) 60)) := (by rw [← hW]; exact (heap_setCells_ne (by omega) _ _ _).trans ((heap_old _ _ ht).trans T1'.out) : W1.heap[w.heap.size + 1 + 1 + 1]? = some (.cells (ca 32 T) 60))
      have G0 : Hid (W1.heap[g]? = some (.cells (ca 16 (fun j => if j < 0 then T j + 38 * T (j + 16) else 0)) 33)) := (by rw [← hW, ← hg]; exact (heap_setCells_all _ (heap_new' _ _ rfl) rfl).trans (by rfl) : W1.heap[g]? = some (.cells (ca 16 (fun j => if j < 0 then T j + 38 * T (j + 16) else 0)) 33))
      have B0 : Hid (Below w.heap.size w W1) := (by rw [← hW]; exact below_setCells (by omega) _ _ _ (B1'.out.alloc (by omega) _) : Below w.heap.size w W1)
      rw [hg] at ht hz
      rw [hg]
      clear hW Z1' T1' B1' hh hg
      go_wp2_with fail
      go_loopw [9] (fun t wx => ∃ (k : Nat), k ≤ 16 ∧ t = .int .i64 k ∧ wx.heap[w.heap.size + 1 + 1]? = some (.cells zs 33) ∧ wx.heap[w.heap.size + 1 + 1 + 1]? = some (.cells (ca 32 T) 60) ∧ wx.heap[g]? = some (.cells (ca 16 (fun j => if j < k then T j + 38 * T (j + 16) else 0)) 33) ∧ Below w.heap.size w wx) (fun t _ => 16 - (intOf t).toNat)
      case atStart => exact ⟨0, by omega, rfl, Z0.out, T0.out, G0.out, B0.out⟩
      case round =>
        obtain ⟨k, hk, rfl, Z, TT, GG, B⟩ := hrel
        have Z1 : Hid _ := Z
        have T1 : Hid _ := TT
        have G1 : Hid _ := GG
        have B1 : Hid _ := B
        clear Z TT GG B Z0 T0 G0 B0
        by_cases hlt : k < 16
        · have k16 : (k : Int) < 16 := by omega
          have k32 : (k : Int) < 32 := by omega
          obtain ⟨n', hn⟩ : ∃ n', k + 16 = n' := ⟨_, rfl⟩
          have n32 : (n' : Int) < 32 := by omega
          have EN : Hid (IntKind.i64.wrap ((k : Int) + 16) = (n' : Int)) := (by rw [IntKind.wrap_i64]; omega : IntKind.i64.wrap ((k : Int) + 16) = (n' : Int))
          have qx := (cell_of T1.out k).trans (ca_get 32 _ k (by omega))
          have qy := (cell_of T1.out n').trans (ca_get 32 _ n' (by omega))
          have h1 := J1'.out.bd k
          have h2 := J1'.out.bd n'
          obtain ⟨p, hp⟩ : ∃ p, 38 * T n' = p := ⟨_, rfl⟩
          obtain ⟨s, hs⟩ : ∃ s, T k + p = s := ⟨_, rfl⟩
          have HS : Hid (T k + 38 * T (k + 16) = s) := (by rw [hn, hp, hs] : T k + 38 * T (k + 16) = s)
          have E1 : Hid (IntKind.u64.wrap (38 * (T n' : Nat)) = (p : Int)) := (by rw [show 38 * ((T n' : Nat) : Int) = ((38 * T n' : Nat) : Int) by simp, hp, wrapN _ (by omega)] : IntKind.u64.wrap (38 * (T n' : Nat)) = (p : Int))
          have E2 : Hid (IntKind.u64.wrap ((T k : Nat) + (p : Int)) = (s : Int)) := (by rw [addN, wrapN _ (by omega), hs] : IntKind.u64.wrap ((T k : Nat) + (p : Int)) = (s : Int))
          clear h1 h2 hp hs hn
          generalize hx : T k = x at qx qy E1 E2
          generalize hy : T n' = y at qx qy E1 E2
          clear hx hy
          go_upto_region 13 with fail
          refine region_list wr.heap.size (C := fun w' => Below wr.heap.size wr w') [.inl (.int .i64 (k : Nat)), .inl (.int .i64 (k : Nat)), .inl (.pointer (some ⟨w.heap.size + 1 + 1 + 1, k, none⟩)), .inl (.int .u64 (x : Nat)), .inl (.int .i64 (k : Nat)), .inl (.int .i64 (n' : Nat)), .inl (.pointer (some ⟨w.heap.size + 1 + 1 + 1, n', none⟩)), .inl (.int .u64 (y : Nat)), .inl (.int .u64 (p : Nat)), .inl (.int .u64 (s : Nat)), .inl (.pointer (some ⟨g, k, none⟩))] [] (by kernel_rfl) (by kernel_rfl) ⟨rfl, rfl, rfl, Nat.le_refl _, fun _ _ => rfl⟩
            (fun w1 w2 h1 h2 => h1.trans (h2.mono h1.size)) (fun i h => by simp at h) ?_ ?_
          · refine ⟨?_, ?_, ?_, ?_, ?_, ?_, ?_, ?_, ?_, ?_, ?_, trivial⟩
            · intro s v hC hk hd
              have h : s.tmps[9]? = some (.int .i64 (k : Nat)) := hk 9 (by kernel_rfl)
              exact ok_value rfl (by simp [execOp, Act.eval, h])
            · intro s v hC hk hd
              have h : s.tmps[9]? = some (.int .i64 (k : Nat)) := hk 9 (by kernel_rfl)
              exact ok_value rfl (by simp [execOp, Act.eval, h])
            · intro s v hC hk hd
              have h : s.tmps[5]? = some (.pointer (some ⟨w.heap.size + 1 + 1 + 1, 0, none⟩)) := hk 5 (by kernel_rfl)
              have h2 : s.tmps[39]? = some (.int .i64 (k : Nat)) := hd 1 (by kernel_rfl)
              exact ok_value rfl (by simp [execOp, Act.eval, h, h2, go_sem, k32])
            · intro s v hC hk hd
              have h : s.tmps[40]? = some (.pointer (some ⟨w.heap.size + 1 + 1 + 1, k, none⟩)) := hd 2 (by kernel_rfl)
              have hc := (hC.cell (p := ⟨w.heap.size + 1 + 1 + 1, k, none⟩) (lt_of_block T1.out)).trans qx
              exact ok_value rfl (by simp [execOp, Act.eval, h, go_sem, hc])
            · intro s v hC hk hd
              have h : s.tmps[9]? = some (.int .i64 (k : Nat)) := hk 9 (by kernel_rfl)
              exact ok_value rfl (by simp [execOp, Act.eval, h])
            · intro s v hC hk hd
              have h : s.tmps[42]? = some (.int .i64 (k : Nat)) := hd 4 (by kernel_rfl)
              exact ok_value rfl (by simp [execOp, Act.eval, h, go_sem, EN.out])
            · intro s v hC hk hd
              have h : s.tmps[5]? = some (.pointer (some ⟨w.heap.size + 1 + 1 + 1, 0, none⟩)) := hk 5 (by kernel_rfl)
              have h2 : s.tmps[43]? = some (.int .i64 (n' : Nat)) := hd 5 (by kernel_rfl)
              exact ok_value rfl (by simp [execOp, Act.eval, h, h2, go_sem, n32])
            · intro s v hC hk hd
              have h : s.tmps[44]? = some (.pointer (some ⟨w.heap.size + 1 + 1 + 1, n', none⟩)) := hd 6 (by kernel_rfl)
              have hc := (hC.cell (p := ⟨w.heap.size + 1 + 1 + 1, n', none⟩) (lt_of_block T1.out)).trans qy
              exact ok_value rfl (by simp [execOp, Act.eval, h, go_sem, hc])
            · intro s v hC hk hd
              have h : s.tmps[45]? = some (.int .u64 (y : Nat)) := hd 7 (by kernel_rfl)
              exact ok_value rfl (by simp [execOp, Act.eval, h, go_sem, E1.out])
            · intro s v hC hk hd
              have h : s.tmps[41]? = some (.int .u64 (x : Nat)) := hd 3 (by kernel_rfl)
              have h2 : s.tmps[46]? = some (.int .u64 (p : Nat)) := hd 8 (by kernel_rfl)
              exact ok_value rfl (by simp [execOp, Act.eval, h, h2, go_sem, E2.out])
            · intro s v hC hk hd
              have h : s.tmps[8]? = some (.pointer (some ⟨g, 0, none⟩)) := hk 8 (by kernel_rfl)
              have h2 : s.tmps[38]? = some (.int .i64 (k : Nat)) := hd 0 (by kernel_rfl)
              exact ok_value rfl (by simp [execOp, Act.eval, h, h2, go_sem, k16])
          · intro b wA hC _ _
            simp [valsOf, valOf, putAll, Act.put]
            have Z2 : Hid _ := keep hC Z1.out
            have T2 : Hid _ := keep hC T1.out
            have G2 : Hid _ := keep hC G1.out
            have B2 : Hid (Below w.heap.size w wA) := B1.out.trans (hC.mono B1.out.size)
            clear hC Z1 T1 G1 B1 qx qy E1 E2 EN
            have q := (cell_of G2.out k).trans (ca_get 16 _ k hlt)
            have f := frozen_of G2.out k
            go_wp2_with fail
            go_roundw
            case rel =>
              refine ⟨k + 1, by omega, by go_num, (heap_set_ne _ _ (by omega)).trans Z2.out, (heap_set_ne _ _ (by omega)).trans T2.out, (heap_set G2.out k _).trans (cells_eq ((ca_set 16 _ k s hlt).trans (ca_ext fun j _ => ?_))), B2.out.setCell (show w.heap.size ≤ g by omega) _⟩
              by_cases e : j = k
              · rw [if_pos e, if_pos (by omega), e]; exact HS.out.symm
              · rw [if_neg e]
                by_cases e' : j < k
                · rw [if_pos e', if_pos (by omega)]
                · rw [if_neg e', if_neg (by omega)]
            case measure => simp [intOf]; omega
        · have e : k = 16 := by omega
          subst e
          have G2 : Hid (wr.heap[g]? = some (.cells (ca 16 (fun j => T j + 38 * T (j + 16))) 33)) := (G1.out.trans (cells_eq (ca_ext fun j hj => by rw [if_pos hj])) : wr.heap[g]? = some (.cells (ca 16 (fun j => T j + 38 * T (j + 16))) 33))
          have K1 := fun v => full_any (fun j => T j + 38 * T (j + 16)) (fun j _ => by have := J1'.out.bd j; have := J1'.out.bd (j + 16); omega) v
          rw [mul_fold, J1'.out.sum, show psum G 0 = 0 from rfl, Nat.mul_zero, Nat.add_zero] at K1
          rw [HN.out] at K1
          have KK : Hid _ := K1
          clear hk hlt G1 K1
          go_upto_region 14 with fail
          refine wp_region_list ?_
          refine wpList_load_blk (b := g) rfl rfl rfl G2.out Try.underlying33 rfl (by kernel_rfl) (ca_size _ _) ?_
          simp only [Act.put]
          go_wp2_with fail
          refine (KK.out _).mono ?_
          rintro e u ⟨rfl, hb⟩
          have Z2 : Hid _ := keep hb Z1.out
          have B2 : Hid (Below w.heap.size w u) := B1.out.trans (hb.mono B1.out.size)
          clear hb
          go_wp2_with (refine wpList_store_blk (b := w.heap.size + 1 + 1) rfl rfl rfl rfl Z2.out (by kernel_rfl) SZ.out (ca_size _ _) (ca_one _ _) ?_)
          refine bodyPost_ret (v := .agg (ca 16 (dg n))) (results_blk (b := w.heap.size + 1 + 1) Try.results22 rfl (heap_setCells_all _ Z2.out (by rw [SZ.out, ca_size])) Try.underlying33 rfl (by kernel_rfl) (ca_size _ _)) rfl ⟨rfl, ?_⟩
          exact below_setCells (by omega) _ _ _ B2.out

theorem rmul_any (x y : Nat) (hx : x < q256) (hy : y < q256) (w : World) :
    Calls Try.prog 22 #[.agg (ca 16 (dg x)), .agg (ca 16 (dg y))] w fun e w' => e = .returned (.agg (ca 16 (dg (x * y % pN)))) ∧ Below w.heap.size w w' := by
  have k1 := rmul_raw (dg x) (dg y) (dg_lt x) (dg_lt y) _ _ rfl rfl w
  rw [psum_dg, psum_dg, show (65536 : Nat) ^ 16 = q256 from rfl, Nat.mod_eq_of_lt hx, Nat.mod_eq_of_lt hy] at k1
  exact k1
end Go.Proofs.Ytpgmaidbemndnaa
