/- The walk of the quarter round of the answer of the document. -/
import Derived.Test.YtcmoohkkaibgkaaW3
namespace Go.Proofs.Ytcmoohkkaibgkaa
open Go.RowKit

theorem cnset_ne {k : IntKind} {l : List Nat} {i j x : Nat} (h : i ≠ j) : (cn k (l.set i x))[j]? = (cn k l)[j]? := by
  rw [← cn_set, Array.getElem?_setIfInBounds_ne h]
theorem cnset_eq {k : IntKind} {l : List Nat} {i x : Nat} (h : i < l.length) : (cn k (l.set i x))[i]? = some (.int k (x : Nat)) := by
  rw [← cn_set, Array.getElem?_setIfInBounds_self_of_lt (by rw [cn_size]; exact h)]
theorem sets8 (L : List Nat) (a b c d a1 d1 c1 b1 a2 d2 c2 b2 : Nat) (hab : a ≠ b) (hac : a ≠ c) (had : a ≠ d) (hbc : b ≠ c) (hbd : b ≠ d) (hcd : c ≠ d) :
    (((((((L.set a a1).set d d1).set c c1).set b b1).set a a2).set d d2).set c c2).set b b2 = (((L.set a a2).set b b2).set c c2).set d d2 := by
  refine ext_getD (by simp) fun j _ => ?_
  simp only [getD_set, List.length_set]
  by_cases e1 : a = j
  · subst e1; simp [hab.symm, hac.symm, had.symm]; split <;> rfl
  · by_cases e2 : b = j
    · subst e2; simp [e1, hbc.symm, hbd.symm]; split <;> rfl
    · by_cases e3 : c = j
      · subst e3; simp [e1, e2, hcd.symm]; split <;> rfl
      · simp [e1, e2, e3]
        by_cases e4 : d = j
        · simp [e4]; split <;> rfl
        · simp [e4]

set_option maxRecDepth 100000 in
set_option maxHeartbeats 2000000 in
theorem rquarter_any (L : List Nat) (hL : Words L) (a b c d : Nat) (la : a < 16) (lb : b < 16) (lc : c < 16) (ld : d < 16) (hab : a ≠ b) (hac : a ≠ c) (had : a ≠ d) (hbc : b ≠ c) (hbd : b ≠ d) (hcd : c ≠ d) (w0 : World) :
    Calls Try.prog 39 #[.agg (cn .u32 L), .int .i64 (a : Nat), .int .i64 (b : Nat), .int .i64 (c : Nat), .int .i64 (d : Nat)] w0 fun e w' => e = .returned (.agg (cn .u32 (qAt L a b c d))) ∧ Below w0.heap.size w0 w' := by
  have lL := hL.len
  have m : ∀ x, x % 4294967296 < 4294967296 := fun x => Nat.mod_lt _ (by decide)
  have ga := cn_get .u32 L a (by rw [lL]; exact la)
  have gb := cn_get .u32 L b (by rw [lL]; exact lb)
  have gc := cn_get .u32 L c (by rw [lL]; exact lc)
  have gd := cn_get .u32 L d (by rw [lL]; exact ld)
  have hb4 := hL.lt b
  have hd4 := hL.lt d
  have HQ : qAt L a b c d = qAt L a b c d := rfl
  conv at HQ => rhs; unfold qAt
  generalize L.getD a 0 = xa at *
  generalize L.getD b 0 = xb at *
  generalize L.getD c 0 = xc at *
  generalize L.getD d 0 = xd at *
  simp only [q4] at HQ
  have lt_xb := hb4
  have lt_xd := hd4
  have s_A1 := sumI xa xb
  have lt_A1 := m (xa + xb)
  generalize (xa + xb) % 4294967296 = A1 at *
  have x_D1 := u32_xor_nat xd A1 lt_xd lt_A1
  have lx_D1 := xor_lt lt_xd lt_A1
  have k_D1 : ∀ w, Calls Try.prog 48 #[.int .u32 (xd ^^^ A1 : Nat), .int .u32 16] w fun e w' => e = .returned (.int .u32 (rN 65536 65536 (xd ^^^ A1) : Nat)) ∧ Below w.heap.size w w' := fun w => (left16 _ lx_D1 w).mono (by rintro e w' ⟨rfl, rfl⟩; exact ⟨rfl, Below.refl _ _⟩)
  have lt_D1 := rN_lt 65536 65536 _ lx_D1
  generalize rN 65536 65536 (xd ^^^ A1) = D1 at *
  generalize xd ^^^ A1 = xD1 at *
  have s_C1 := sumI xc D1
  have lt_C1 := m (xc + D1)
  generalize (xc + D1) % 4294967296 = C1 at *
  have x_B1 := u32_xor_nat xb C1 lt_xb lt_C1
  have lx_B1 := xor_lt lt_xb lt_C1
  have k_B1 : ∀ w, Calls Try.prog 48 #[.int .u32 (xb ^^^ C1 : Nat), .int .u32 12] w fun e w' => e = .returned (.int .u32 (rN 4096 1048576 (xb ^^^ C1) : Nat)) ∧ Below w.heap.size w w' := fun w => (left12 _ lx_B1 w).mono (by rintro e w' ⟨rfl, rfl⟩; exact ⟨rfl, Below.refl _ _⟩)
  have lt_B1 := rN_lt 4096 1048576 _ lx_B1
  generalize rN 4096 1048576 (xb ^^^ C1) = B1 at *
  generalize xb ^^^ C1 = xB1 at *
  have s_A2 := sumI A1 B1
  have lt_A2 := m (A1 + B1)
  generalize (A1 + B1) % 4294967296 = A2 at *
  have x_D2 := u32_xor_nat D1 A2 lt_D1 lt_A2
  have lx_D2 := xor_lt lt_D1 lt_A2
  have k_D2 : ∀ w, Calls Try.prog 48 #[.int .u32 (D1 ^^^ A2 : Nat), .int .u32 8] w fun e w' => e = .returned (.int .u32 (rN 256 16777216 (D1 ^^^ A2) : Nat)) ∧ Below w.heap.size w w' := fun w => (left8 _ lx_D2 w).mono (by rintro e w' ⟨rfl, rfl⟩; exact ⟨rfl, Below.refl _ _⟩)
  have lt_D2 := rN_lt 256 16777216 _ lx_D2
  generalize rN 256 16777216 (D1 ^^^ A2) = D2 at *
  generalize D1 ^^^ A2 = xD2 at *
  have s_C2 := sumI C1 D2
  have lt_C2 := m (C1 + D2)
  generalize (C1 + D2) % 4294967296 = C2 at *
  have x_B2 := u32_xor_nat B1 C2 lt_B1 lt_C2
  have lx_B2 := xor_lt lt_B1 lt_C2
  have k_B2 : ∀ w, Calls Try.prog 48 #[.int .u32 (B1 ^^^ C2 : Nat), .int .u32 7] w fun e w' => e = .returned (.int .u32 (rN 128 33554432 (B1 ^^^ C2) : Nat)) ∧ Below w.heap.size w w' := fun w => (left7 _ lx_B2 w).mono (by rintro e w' ⟨rfl, rfl⟩; exact ⟨rfl, Below.refl _ _⟩)
  have lt_B2 := rN_lt 128 33554432 _ lx_B2
  generalize rN 128 33554432 (B1 ^^^ C2) = B2 at *
  generalize B1 ^^^ C2 = xB2 at *
  rw [← sets8 L a b c d A1 D1 C1 B1 A2 D2 C2 B2 hab hac had hbc hbd hcd] at HQ
  refine enter_fr Try.func39 rfl Try.ntmps39 (by simp) fun a_ (F : Fr 84 a_ [(0, .agg (cn .u32 L)), (1, .int .i64 (a : Nat)), (2, .int .i64 (b : Nat)), (3, .int .i64 (c : Nat)), (4, .int .i64 (d : Nat))]) => ?_
  have M := Mem.start w0
  refine wp_seq (wp_region_list ?_)
  refine st_alloc [0, 2, 3, 4, 5] F M (d := 5) (.cells (cn .u32 L) 50) (fun b => .pointer (some ⟨b, 0, none⟩)) rfl rfl (by decide) (by simp [execOp, Act.eval, (F.get 0 rfl), go_sem]) fun a1 w3 b_ (F2 : Fr 84 a1 [(5, (.pointer (some ⟨b_, 0, none⟩))), (1, .int .i64 (a : Nat)), (2, .int .i64 (b : Nat)), (3, .int .i64 (c : Nat)), (4, .int .i64 (d : Nat))]) (M4 : Mem w0.heap.size w0 w3 [(b_, .cells (cn .u32 L) 50)]) => ?_
  refine st_alloc [0, 1, 2, 3, 4, 5] F2 M4 (d := 10) (.cells (cn .u32 (List.replicate 16 0)) 50) (fun b => .pointer (some ⟨b, 0, none⟩)) rfl rfl (by decide) (by simp [execOp, go_sem, cn]) fun a5 w7 z (F6 : Fr 84 a5 [(10, (.pointer (some ⟨z, 0, none⟩))), (5, (.pointer (some ⟨b_, 0, none⟩))), (1, .int .i64 (a : Nat)), (2, .int .i64 (b : Nat)), (3, .int .i64 (c : Nat)), (4, .int .i64 (d : Nat))]) (M8 : Mem w0.heap.size w0 w7 [(z, .cells (cn .u32 (List.replicate 16 0)) 50), (b_, .cells (cn .u32 L) 50)]) => ?_
  refine wpl_nil (then_n ?_)
  refine wp_seq (region_list w7.heap.size (C := fun w' => Below w7.heap.size w7 w') [.inl (.int .i64 (a : Nat)), .inl (.pointer (some ⟨b_, a, none⟩)), .inl (.int .u32 (xa : Nat)), .inl (.int .i64 (b : Nat)), .inl (.pointer (some ⟨b_, b, none⟩)), .inl (.int .u32 (xb : Nat)), .inl (.int .u32 (A1 : Nat)), .inl (.pointer (some ⟨b_, a, none⟩))] [] (by kernel_rfl) (by rw [F6.size]; kernel_rfl) ⟨rfl, rfl, rfl, Nat.le_refl _, fun _ _ => rfl⟩ (fun w1 w2 h1 h2 => h1.trans (h2.mono h1.size)) (fun i h => by simp at h) ?_ ?_)
  · refine ⟨?_, ?_, ?_, ?_, ?_, ?_, ?_, ?_, trivial⟩
    · intro s v hC hk hd
      have h1 : s.tmps[1]? = some (.int .i64 (a : Nat)) := (hk 1 (by kernel_rfl)).trans (F6.get 2 rfl)
      exact ok_value rfl (ex_move rfl (eval_tmp h1))
    · intro s v hC hk hd
      have h5 : s.tmps[5]? = some ((.pointer (some ⟨b_, 0, none⟩))) := (hk 5 (by kernel_rfl)).trans (F6.get 1 rfl)
      have h11 : s.tmps[11]? = some (.int .i64 (a : Nat)) := hd 0 (by kernel_rfl)
      exact ok_value rfl (ex_idx (i := a) rfl h5 (eval_tmp h11) Try.underlying50 la (by kernel_rfl))
    · intro s v hC hk hd
      have h12 : s.tmps[12]? = some (.pointer (some ⟨b_, a, none⟩)) := hd 1 (by kernel_rfl)
      exact ok_value rfl (ex_load1 rfl h12 ((M8.keep hC).get 1 rfl) ga Try.underlying45 rfl)
    · intro s v hC hk hd
      have h2 : s.tmps[2]? = some (.int .i64 (b : Nat)) := (hk 2 (by kernel_rfl)).trans (F6.get 3 rfl)
      exact ok_value rfl (ex_move rfl (eval_tmp h2))
    · intro s v hC hk hd
      have h5 : s.tmps[5]? = some ((.pointer (some ⟨b_, 0, none⟩))) := (hk 5 (by kernel_rfl)).trans (F6.get 1 rfl)
      have h14 : s.tmps[14]? = some (.int .i64 (b : Nat)) := hd 3 (by kernel_rfl)
      exact ok_value rfl (ex_idx (i := b) rfl h5 (eval_tmp h14) Try.underlying50 lb (by kernel_rfl))
    · intro s v hC hk hd
      have h15 : s.tmps[15]? = some (.pointer (some ⟨b_, b, none⟩)) := hd 4 (by kernel_rfl)
      exact ok_value rfl (ex_load1 rfl h15 ((M8.keep hC).get 1 rfl) gb Try.underlying45 rfl)
    · intro s v hC hk hd
      have h13 : s.tmps[13]? = some (.int .u32 (xa : Nat)) := hd 2 (by kernel_rfl)
      have h16 : s.tmps[16]? = some (.int .u32 (xb : Nat)) := hd 5 (by kernel_rfl)
      exact ok_value rfl (by simp [execOp, Act.eval, h13, h16, go_sem]; rw [IntKind.wrap_u32']; exact s_A1)
    · intro s v hC hk hd
      have h5 : s.tmps[5]? = some ((.pointer (some ⟨b_, 0, none⟩))) := (hk 5 (by kernel_rfl)).trans (F6.get 1 rfl)
      have h11 : s.tmps[11]? = some (.int .i64 (a : Nat)) := hd 0 (by kernel_rfl)
      exact ok_value rfl (ex_idx (i := a) rfl h5 (eval_tmp h11) Try.underlying50 la (by kernel_rfl))
  · intro nb w9 hC hf hne
    have M12 := M8.keep hC
    refine fr_all [0, 1, 8, 9, 10, 11, 12, 13] F6 (by kernel_rfl) fun a10 (F11 : Fr 84 a10 [(18, (.pointer (some ⟨b_, a, none⟩))), (17, (.int .u32 (A1 : Nat))), (10, (.pointer (some ⟨z, 0, none⟩))), (5, (.pointer (some ⟨b_, 0, none⟩))), (1, .int .i64 (a : Nat)), (2, .int .i64 (b : Nat)), (3, .int .i64 (c : Nat)), (4, .int .i64 (d : Nat))]) => ?_
    refine st_put F11 M12 (t := 18) (s := 17) (b := b_) (o := a) (i := 1) (j := 0) (m := 1) rfl rfl rfl rfl (by kernel_rfl) (by rw [cn_size]; simp only [lL]; exact la) rfl rfl rfl fun w13 h15 => ?_
    have M14 : Mem w0.heap.size w0 w13 [(z, .cells (cn .u32 (List.replicate 16 0)) 50), (b_, .cells (cn .u32 (L.set a A1)) 50)] := by rw [cn_set] at h15; exact h15
    clear h15
    refine wpl_nil (then_n ?_)
    have ga1 := cnset_eq (k := .u32) (l := L) (x := A1) (by simp only [lL]; exact la : a < List.length L)
    have gb1 := (cnset_ne (k := .u32) (l := L) (x := A1) hab).trans gb
    have gc1 := (cnset_ne (k := .u32) (l := L) (x := A1) hac).trans gc
    have gd1 := (cnset_ne (k := .u32) (l := L) (x := A1) had).trans gd
    refine wp_seq (region_list w13.heap.size (C := fun w' => Below w13.heap.size w13 w') [.inl (.int .i64 (d : Nat)), .inl (.int .i64 (d : Nat)), .inl (.pointer (some ⟨b_, d, none⟩)), .inl (.int .u32 (xd : Nat)), .inl (.int .i64 (a : Nat)), .inl (.pointer (some ⟨b_, a, none⟩)), .inl (.int .u32 (A1 : Nat)), .inl (.int .u32 (xD1 : Nat)), .inl (.int .u32 (D1 : Nat)), .inl (.pointer (some ⟨b_, d, none⟩))] [] (by kernel_rfl) (by rw [F11.size]; kernel_rfl) ⟨rfl, rfl, rfl, Nat.le_refl _, fun _ _ => rfl⟩ (fun w1 w2 h1 h2 => h1.trans (h2.mono h1.size)) (fun i h => by simp at h) ?_ ?_)
    · refine ⟨?_, ?_, ?_, ?_, ?_, ?_, ?_, ?_, ?_, ?_, trivial⟩
      · intro s v hC hk hd
        have h4 : s.tmps[4]? = some (.int .i64 (d : Nat)) := (hk 4 (by kernel_rfl)).trans (F11.get 7 rfl)
        exact ok_value rfl (ex_move rfl (eval_tmp h4))
      · intro s v hC hk hd
        have h4 : s.tmps[4]? = some (.int .i64 (d : Nat)) := (hk 4 (by kernel_rfl)).trans (F11.get 7 rfl)
        exact ok_value rfl (ex_move rfl (eval_tmp h4))
      · intro s v hC hk hd
        have h5 : s.tmps[5]? = some ((.pointer (some ⟨b_, 0, none⟩))) := (hk 5 (by kernel_rfl)).trans (F11.get 3 rfl)
        have h20 : s.tmps[20]? = some (.int .i64 (d : Nat)) := hd 1 (by kernel_rfl)
        exact ok_value rfl (ex_idx (i := d) rfl h5 (eval_tmp h20) Try.underlying50 ld (by kernel_rfl))
      · intro s v hC hk hd
        have h21 : s.tmps[21]? = some (.pointer (some ⟨b_, d, none⟩)) := hd 2 (by kernel_rfl)
        exact ok_value rfl (ex_load1 rfl h21 ((M14.keep hC).get 1 rfl) gd1 Try.underlying45 rfl)
      · intro s v hC hk hd
        have h1 : s.tmps[1]? = some (.int .i64 (a : Nat)) := (hk 1 (by kernel_rfl)).trans (F11.get 4 rfl)
        exact ok_value rfl (ex_move rfl (eval_tmp h1))
      · intro s v hC hk hd
        have h5 : s.tmps[5]? = some ((.pointer (some ⟨b_, 0, none⟩))) := (hk 5 (by kernel_rfl)).trans (F11.get 3 rfl)
        have h23 : s.tmps[23]? = some (.int .i64 (a : Nat)) := hd 4 (by kernel_rfl)
        exact ok_value rfl (ex_idx (i := a) rfl h5 (eval_tmp h23) Try.underlying50 la (by kernel_rfl))
      · intro s v hC hk hd
        have h24 : s.tmps[24]? = some (.pointer (some ⟨b_, a, none⟩)) := hd 5 (by kernel_rfl)
        exact ok_value rfl (ex_load1 rfl h24 ((M14.keep hC).get 1 rfl) ga1 Try.underlying45 rfl)
      · intro s v hC hk hd
        have h22 : s.tmps[22]? = some (.int .u32 (xd : Nat)) := hd 3 (by kernel_rfl)
        have h25 : s.tmps[25]? = some (.int .u32 (A1 : Nat)) := hd 6 (by kernel_rfl)
        exact ok_value rfl (by simp [execOp, Act.eval, h22, h25, go_sem]; exact x_D1)
      · intro s v hC hk hd
        have h26 : s.tmps[26]? = some (.int .u32 (xD1 : Nat)) := hd 7 (by kernel_rfl)
        exact ok_call rfl (by simp [Act.eval, h26, go_sem]) (k_D1 v)
      · intro s v hC hk hd
        have h5 : s.tmps[5]? = some ((.pointer (some ⟨b_, 0, none⟩))) := (hk 5 (by kernel_rfl)).trans (F11.get 3 rfl)
        have h19 : s.tmps[19]? = some (.int .i64 (d : Nat)) := hd 0 (by kernel_rfl)
        exact ok_value rfl (ex_idx (i := d) rfl h5 (eval_tmp h19) Try.underlying50 ld (by kernel_rfl))
    · intro nb w16 hC hf hne
      have M19 := M14.keep hC
      refine fr_all [0, 1, 12, 13, 14, 15, 16, 17] F11 (by kernel_rfl) fun a17 (F18 : Fr 84 a17 [(28, (.pointer (some ⟨b_, d, none⟩))), (27, (.int .u32 (D1 : Nat))), (10, (.pointer (some ⟨z, 0, none⟩))), (5, (.pointer (some ⟨b_, 0, none⟩))), (1, .int .i64 (a : Nat)), (2, .int .i64 (b : Nat)), (3, .int .i64 (c : Nat)), (4, .int .i64 (d : Nat))]) => ?_
      refine st_put F18 M19 (t := 28) (s := 27) (b := b_) (o := d) (i := 1) (j := 0) (m := 1) rfl rfl rfl rfl (by kernel_rfl) (by rw [cn_size]; simp only [List.length_set, lL]; exact ld) rfl rfl rfl fun w20 h22 => ?_
      have M21 : Mem w0.heap.size w0 w20 [(z, .cells (cn .u32 (List.replicate 16 0)) 50), (b_, .cells (cn .u32 ((L.set a A1).set d D1)) 50)] := by rw [cn_set] at h22; exact h22
      clear h22
      refine wpl_nil (then_n ?_)
      have ga2 := (cnset_ne (k := .u32) (l := (L.set a A1)) (x := D1) (Ne.symm had)).trans ga1
      have gb2 := (cnset_ne (k := .u32) (l := (L.set a A1)) (x := D1) (Ne.symm hbd)).trans gb1
      have gc2 := (cnset_ne (k := .u32) (l := (L.set a A1)) (x := D1) (Ne.symm hcd)).trans gc1
      have gd2 := cnset_eq (k := .u32) (l := (L.set a A1)) (x := D1) (by simp only [List.length_set, lL]; exact ld : d < List.length (L.set a A1))
      refine wp_seq (region_list w20.heap.size (C := fun w' => Below w20.heap.size w20 w') [.inl (.int .i64 (c : Nat)), .inl (.pointer (some ⟨b_, c, none⟩)), .inl (.int .u32 (xc : Nat)), .inl (.int .i64 (d : Nat)), .inl (.pointer (some ⟨b_, d, none⟩)), .inl (.int .u32 (D1 : Nat)), .inl (.int .u32 (C1 : Nat)), .inl (.pointer (some ⟨b_, c, none⟩))] [] (by kernel_rfl) (by rw [F18.size]; kernel_rfl) ⟨rfl, rfl, rfl, Nat.le_refl _, fun _ _ => rfl⟩ (fun w1 w2 h1 h2 => h1.trans (h2.mono h1.size)) (fun i h => by simp at h) ?_ ?_)
      · refine ⟨?_, ?_, ?_, ?_, ?_, ?_, ?_, ?_, trivial⟩
        · intro s v hC hk hd
          have h3 : s.tmps[3]? = some (.int .i64 (c : Nat)) := (hk 3 (by kernel_rfl)).trans (F18.get 6 rfl)
          exact ok_value rfl (ex_move rfl (eval_tmp h3))
        · intro s v hC hk hd
          have h5 : s.tmps[5]? = some ((.pointer (some ⟨b_, 0, none⟩))) := (hk 5 (by kernel_rfl)).trans (F18.get 3 rfl)
          have h29 : s.tmps[29]? = some (.int .i64 (c : Nat)) := hd 0 (by kernel_rfl)
          exact ok_value rfl (ex_idx (i := c) rfl h5 (eval_tmp h29) Try.underlying50 lc (by kernel_rfl))
        · intro s v hC hk hd
          have h30 : s.tmps[30]? = some (.pointer (some ⟨b_, c, none⟩)) := hd 1 (by kernel_rfl)
          exact ok_value rfl (ex_load1 rfl h30 ((M21.keep hC).get 1 rfl) gc2 Try.underlying45 rfl)
        · intro s v hC hk hd
          have h4 : s.tmps[4]? = some (.int .i64 (d : Nat)) := (hk 4 (by kernel_rfl)).trans (F18.get 7 rfl)
          exact ok_value rfl (ex_move rfl (eval_tmp h4))
        · intro s v hC hk hd
          have h5 : s.tmps[5]? = some ((.pointer (some ⟨b_, 0, none⟩))) := (hk 5 (by kernel_rfl)).trans (F18.get 3 rfl)
          have h32 : s.tmps[32]? = some (.int .i64 (d : Nat)) := hd 3 (by kernel_rfl)
          exact ok_value rfl (ex_idx (i := d) rfl h5 (eval_tmp h32) Try.underlying50 ld (by kernel_rfl))
        · intro s v hC hk hd
          have h33 : s.tmps[33]? = some (.pointer (some ⟨b_, d, none⟩)) := hd 4 (by kernel_rfl)
          exact ok_value rfl (ex_load1 rfl h33 ((M21.keep hC).get 1 rfl) gd2 Try.underlying45 rfl)
        · intro s v hC hk hd
          have h31 : s.tmps[31]? = some (.int .u32 (xc : Nat)) := hd 2 (by kernel_rfl)
          have h34 : s.tmps[34]? = some (.int .u32 (D1 : Nat)) := hd 5 (by kernel_rfl)
          exact ok_value rfl (by simp [execOp, Act.eval, h31, h34, go_sem]; rw [IntKind.wrap_u32']; exact s_C1)
        · intro s v hC hk hd
          have h5 : s.tmps[5]? = some ((.pointer (some ⟨b_, 0, none⟩))) := (hk 5 (by kernel_rfl)).trans (F18.get 3 rfl)
          have h29 : s.tmps[29]? = some (.int .i64 (c : Nat)) := hd 0 (by kernel_rfl)
          exact ok_value rfl (ex_idx (i := c) rfl h5 (eval_tmp h29) Try.underlying50 lc (by kernel_rfl))
      · intro nb w23 hC hf hne
        have M26 := M21.keep hC
        refine fr_all [0, 1, 10, 11, 12, 13, 14, 15] F18 (by kernel_rfl) fun a24 (F25 : Fr 84 a24 [(36, (.pointer (some ⟨b_, c, none⟩))), (35, (.int .u32 (C1 : Nat))), (10, (.pointer (some ⟨z, 0, none⟩))), (5, (.pointer (some ⟨b_, 0, none⟩))), (1, .int .i64 (a : Nat)), (2, .int .i64 (b : Nat)), (3, .int .i64 (c : Nat)), (4, .int .i64 (d : Nat))]) => ?_
        refine st_put F25 M26 (t := 36) (s := 35) (b := b_) (o := c) (i := 1) (j := 0) (m := 1) rfl rfl rfl rfl (by kernel_rfl) (by rw [cn_size]; simp only [List.length_set, lL]; exact lc) rfl rfl rfl fun w27 h29 => ?_
        have M28 : Mem w0.heap.size w0 w27 [(z, .cells (cn .u32 (List.replicate 16 0)) 50), (b_, .cells (cn .u32 (((L.set a A1).set d D1).set c C1)) 50)] := by rw [cn_set] at h29; exact h29
        clear h29
        refine wpl_nil (then_n ?_)
        have ga3 := (cnset_ne (k := .u32) (l := ((L.set a A1).set d D1)) (x := C1) (Ne.symm hac)).trans ga2
        have gb3 := (cnset_ne (k := .u32) (l := ((L.set a A1).set d D1)) (x := C1) (Ne.symm hbc)).trans gb2
        have gc3 := cnset_eq (k := .u32) (l := ((L.set a A1).set d D1)) (x := C1) (by simp only [List.length_set, lL]; exact lc : c < List.length ((L.set a A1).set d D1))
        have gd3 := (cnset_ne (k := .u32) (l := ((L.set a A1).set d D1)) (x := C1) hcd).trans gd2
        refine wp_seq (region_list w27.heap.size (C := fun w' => Below w27.heap.size w27 w') [.inl (.int .i64 (b : Nat)), .inl (.int .i64 (b : Nat)), .inl (.pointer (some ⟨b_, b, none⟩)), .inl (.int .u32 (xb : Nat)), .inl (.int .i64 (c : Nat)), .inl (.pointer (some ⟨b_, c, none⟩)), .inl (.int .u32 (C1 : Nat)), .inl (.int .u32 (xB1 : Nat)), .inl (.int .u32 (B1 : Nat)), .inl (.pointer (some ⟨b_, b, none⟩))] [] (by kernel_rfl) (by rw [F25.size]; kernel_rfl) ⟨rfl, rfl, rfl, Nat.le_refl _, fun _ _ => rfl⟩ (fun w1 w2 h1 h2 => h1.trans (h2.mono h1.size)) (fun i h => by simp at h) ?_ ?_)
        · refine ⟨?_, ?_, ?_, ?_, ?_, ?_, ?_, ?_, ?_, ?_, trivial⟩
          · intro s v hC hk hd
            have h2 : s.tmps[2]? = some (.int .i64 (b : Nat)) := (hk 2 (by kernel_rfl)).trans (F25.get 5 rfl)
            exact ok_value rfl (ex_move rfl (eval_tmp h2))
          · intro s v hC hk hd
            have h2 : s.tmps[2]? = some (.int .i64 (b : Nat)) := (hk 2 (by kernel_rfl)).trans (F25.get 5 rfl)
            exact ok_value rfl (ex_move rfl (eval_tmp h2))
          · intro s v hC hk hd
            have h5 : s.tmps[5]? = some ((.pointer (some ⟨b_, 0, none⟩))) := (hk 5 (by kernel_rfl)).trans (F25.get 3 rfl)
            have h38 : s.tmps[38]? = some (.int .i64 (b : Nat)) := hd 1 (by kernel_rfl)
            exact ok_value rfl (ex_idx (i := b) rfl h5 (eval_tmp h38) Try.underlying50 lb (by kernel_rfl))
          · intro s v hC hk hd
            have h39 : s.tmps[39]? = some (.pointer (some ⟨b_, b, none⟩)) := hd 2 (by kernel_rfl)
            exact ok_value rfl (ex_load1 rfl h39 ((M28.keep hC).get 1 rfl) gb3 Try.underlying45 rfl)
          · intro s v hC hk hd
            have h3 : s.tmps[3]? = some (.int .i64 (c : Nat)) := (hk 3 (by kernel_rfl)).trans (F25.get 6 rfl)
            exact ok_value rfl (ex_move rfl (eval_tmp h3))
          · intro s v hC hk hd
            have h5 : s.tmps[5]? = some ((.pointer (some ⟨b_, 0, none⟩))) := (hk 5 (by kernel_rfl)).trans (F25.get 3 rfl)
            have h41 : s.tmps[41]? = some (.int .i64 (c : Nat)) := hd 4 (by kernel_rfl)
            exact ok_value rfl (ex_idx (i := c) rfl h5 (eval_tmp h41) Try.underlying50 lc (by kernel_rfl))
          · intro s v hC hk hd
            have h42 : s.tmps[42]? = some (.pointer (some ⟨b_, c, none⟩)) := hd 5 (by kernel_rfl)
            exact ok_value rfl (ex_load1 rfl h42 ((M28.keep hC).get 1 rfl) gc3 Try.underlying45 rfl)
          · intro s v hC hk hd
            have h40 : s.tmps[40]? = some (.int .u32 (xb : Nat)) := hd 3 (by kernel_rfl)
            have h43 : s.tmps[43]? = some (.int .u32 (C1 : Nat)) := hd 6 (by kernel_rfl)
            exact ok_value rfl (by simp [execOp, Act.eval, h40, h43, go_sem]; exact x_B1)
          · intro s v hC hk hd
            have h44 : s.tmps[44]? = some (.int .u32 (xB1 : Nat)) := hd 7 (by kernel_rfl)
            exact ok_call rfl (by simp [Act.eval, h44, go_sem]) (k_B1 v)
          · intro s v hC hk hd
            have h5 : s.tmps[5]? = some ((.pointer (some ⟨b_, 0, none⟩))) := (hk 5 (by kernel_rfl)).trans (F25.get 3 rfl)
            have h37 : s.tmps[37]? = some (.int .i64 (b : Nat)) := hd 0 (by kernel_rfl)
            exact ok_value rfl (ex_idx (i := b) rfl h5 (eval_tmp h37) Try.underlying50 lb (by kernel_rfl))
        · intro nb w30 hC hf hne
          have M33 := M28.keep hC
          refine fr_all [0, 1, 12, 13, 14, 15, 16, 17] F25 (by kernel_rfl) fun a31 (F32 : Fr 84 a31 [(46, (.pointer (some ⟨b_, b, none⟩))), (45, (.int .u32 (B1 : Nat))), (10, (.pointer (some ⟨z, 0, none⟩))), (5, (.pointer (some ⟨b_, 0, none⟩))), (1, .int .i64 (a : Nat)), (2, .int .i64 (b : Nat)), (3, .int .i64 (c : Nat)), (4, .int .i64 (d : Nat))]) => ?_
          refine st_put F32 M33 (t := 46) (s := 45) (b := b_) (o := b) (i := 1) (j := 0) (m := 1) rfl rfl rfl rfl (by kernel_rfl) (by rw [cn_size]; simp only [List.length_set, lL]; exact lb) rfl rfl rfl fun w34 h36 => ?_
          have M35 : Mem w0.heap.size w0 w34 [(z, .cells (cn .u32 (List.replicate 16 0)) 50), (b_, .cells (cn .u32 ((((L.set a A1).set d D1).set c C1).set b B1)) 50)] := by rw [cn_set] at h36; exact h36
          clear h36
          refine wpl_nil (then_n ?_)
          have ga4 := (cnset_ne (k := .u32) (l := (((L.set a A1).set d D1).set c C1)) (x := B1) (Ne.symm hab)).trans ga3
          have gb4 := cnset_eq (k := .u32) (l := (((L.set a A1).set d D1).set c C1)) (x := B1) (by simp only [List.length_set, lL]; exact lb : b < List.length (((L.set a A1).set d D1).set c C1))
          have gc4 := (cnset_ne (k := .u32) (l := (((L.set a A1).set d D1).set c C1)) (x := B1) hbc).trans gc3
          have gd4 := (cnset_ne (k := .u32) (l := (((L.set a A1).set d D1).set c C1)) (x := B1) hbd).trans gd3
          refine wp_seq (region_list w34.heap.size (C := fun w' => Below w34.heap.size w34 w') [.inl (.int .i64 (a : Nat)), .inl (.pointer (some ⟨b_, a, none⟩)), .inl (.int .u32 (A1 : Nat)), .inl (.int .i64 (b : Nat)), .inl (.pointer (some ⟨b_, b, none⟩)), .inl (.int .u32 (B1 : Nat)), .inl (.int .u32 (A2 : Nat)), .inl (.pointer (some ⟨b_, a, none⟩))] [] (by kernel_rfl) (by rw [F32.size]; kernel_rfl) ⟨rfl, rfl, rfl, Nat.le_refl _, fun _ _ => rfl⟩ (fun w1 w2 h1 h2 => h1.trans (h2.mono h1.size)) (fun i h => by simp at h) ?_ ?_)
          · refine ⟨?_, ?_, ?_, ?_, ?_, ?_, ?_, ?_, trivial⟩
            · intro s v hC hk hd
              have h1 : s.tmps[1]? = some (.int .i64 (a : Nat)) := (hk 1 (by kernel_rfl)).trans (F32.get 4 rfl)
              exact ok_value rfl (ex_move rfl (eval_tmp h1))
            · intro s v hC hk hd
              have h5 : s.tmps[5]? = some ((.pointer (some ⟨b_, 0, none⟩))) := (hk 5 (by kernel_rfl)).trans (F32.get 3 rfl)
              have h47 : s.tmps[47]? = some (.int .i64 (a : Nat)) := hd 0 (by kernel_rfl)
              exact ok_value rfl (ex_idx (i := a) rfl h5 (eval_tmp h47) Try.underlying50 la (by kernel_rfl))
            · intro s v hC hk hd
              have h48 : s.tmps[48]? = some (.pointer (some ⟨b_, a, none⟩)) := hd 1 (by kernel_rfl)
              exact ok_value rfl (ex_load1 rfl h48 ((M35.keep hC).get 1 rfl) ga4 Try.underlying45 rfl)
            · intro s v hC hk hd
              have h2 : s.tmps[2]? = some (.int .i64 (b : Nat)) := (hk 2 (by kernel_rfl)).trans (F32.get 5 rfl)
              exact ok_value rfl (ex_move rfl (eval_tmp h2))
            · intro s v hC hk hd
              have h5 : s.tmps[5]? = some ((.pointer (some ⟨b_, 0, none⟩))) := (hk 5 (by kernel_rfl)).trans (F32.get 3 rfl)
              have h50 : s.tmps[50]? = some (.int .i64 (b : Nat)) := hd 3 (by kernel_rfl)
              exact ok_value rfl (ex_idx (i := b) rfl h5 (eval_tmp h50) Try.underlying50 lb (by kernel_rfl))
            · intro s v hC hk hd
              have h51 : s.tmps[51]? = some (.pointer (some ⟨b_, b, none⟩)) := hd 4 (by kernel_rfl)
              exact ok_value rfl (ex_load1 rfl h51 ((M35.keep hC).get 1 rfl) gb4 Try.underlying45 rfl)
            · intro s v hC hk hd
              have h49 : s.tmps[49]? = some (.int .u32 (A1 : Nat)) := hd 2 (by kernel_rfl)
              have h52 : s.tmps[52]? = some (.int .u32 (B1 : Nat)) := hd 5 (by kernel_rfl)
              exact ok_value rfl (by simp [execOp, Act.eval, h49, h52, go_sem]; rw [IntKind.wrap_u32']; exact s_A2)
            · intro s v hC hk hd
              have h5 : s.tmps[5]? = some ((.pointer (some ⟨b_, 0, none⟩))) := (hk 5 (by kernel_rfl)).trans (F32.get 3 rfl)
              have h47 : s.tmps[47]? = some (.int .i64 (a : Nat)) := hd 0 (by kernel_rfl)
              exact ok_value rfl (ex_idx (i := a) rfl h5 (eval_tmp h47) Try.underlying50 la (by kernel_rfl))
          · intro nb w37 hC hf hne
            have M40 := M35.keep hC
            refine fr_all [0, 1, 10, 11, 12, 13, 14, 15] F32 (by kernel_rfl) fun a38 (F39 : Fr 84 a38 [(54, (.pointer (some ⟨b_, a, none⟩))), (53, (.int .u32 (A2 : Nat))), (10, (.pointer (some ⟨z, 0, none⟩))), (5, (.pointer (some ⟨b_, 0, none⟩))), (1, .int .i64 (a : Nat)), (2, .int .i64 (b : Nat)), (3, .int .i64 (c : Nat)), (4, .int .i64 (d : Nat))]) => ?_
            refine st_put F39 M40 (t := 54) (s := 53) (b := b_) (o := a) (i := 1) (j := 0) (m := 1) rfl rfl rfl rfl (by kernel_rfl) (by rw [cn_size]; simp only [List.length_set, lL]; exact la) rfl rfl rfl fun w41 h43 => ?_
            have M42 : Mem w0.heap.size w0 w41 [(z, .cells (cn .u32 (List.replicate 16 0)) 50), (b_, .cells (cn .u32 (((((L.set a A1).set d D1).set c C1).set b B1).set a A2)) 50)] := by rw [cn_set] at h43; exact h43
            clear h43
            refine wpl_nil (then_n ?_)
            have ga5 := cnset_eq (k := .u32) (l := ((((L.set a A1).set d D1).set c C1).set b B1)) (x := A2) (by simp only [List.length_set, lL]; exact la : a < List.length ((((L.set a A1).set d D1).set c C1).set b B1))
            have gb5 := (cnset_ne (k := .u32) (l := ((((L.set a A1).set d D1).set c C1).set b B1)) (x := A2) hab).trans gb4
            have gc5 := (cnset_ne (k := .u32) (l := ((((L.set a A1).set d D1).set c C1).set b B1)) (x := A2) hac).trans gc4
            have gd5 := (cnset_ne (k := .u32) (l := ((((L.set a A1).set d D1).set c C1).set b B1)) (x := A2) had).trans gd4
            refine wp_seq (region_list w41.heap.size (C := fun w' => Below w41.heap.size w41 w') [.inl (.int .i64 (d : Nat)), .inl (.int .i64 (d : Nat)), .inl (.pointer (some ⟨b_, d, none⟩)), .inl (.int .u32 (D1 : Nat)), .inl (.int .i64 (a : Nat)), .inl (.pointer (some ⟨b_, a, none⟩)), .inl (.int .u32 (A2 : Nat)), .inl (.int .u32 (xD2 : Nat)), .inl (.int .u32 (D2 : Nat)), .inl (.pointer (some ⟨b_, d, none⟩))] [] (by kernel_rfl) (by rw [F39.size]; kernel_rfl) ⟨rfl, rfl, rfl, Nat.le_refl _, fun _ _ => rfl⟩ (fun w1 w2 h1 h2 => h1.trans (h2.mono h1.size)) (fun i h => by simp at h) ?_ ?_)
            · refine ⟨?_, ?_, ?_, ?_, ?_, ?_, ?_, ?_, ?_, ?_, trivial⟩
              · intro s v hC hk hd
                have h4 : s.tmps[4]? = some (.int .i64 (d : Nat)) := (hk 4 (by kernel_rfl)).trans (F39.get 7 rfl)
                exact ok_value rfl (ex_move rfl (eval_tmp h4))
              · intro s v hC hk hd
                have h4 : s.tmps[4]? = some (.int .i64 (d : Nat)) := (hk 4 (by kernel_rfl)).trans (F39.get 7 rfl)
                exact ok_value rfl (ex_move rfl (eval_tmp h4))
              · intro s v hC hk hd
                have h5 : s.tmps[5]? = some ((.pointer (some ⟨b_, 0, none⟩))) := (hk 5 (by kernel_rfl)).trans (F39.get 3 rfl)
                have h56 : s.tmps[56]? = some (.int .i64 (d : Nat)) := hd 1 (by kernel_rfl)
                exact ok_value rfl (ex_idx (i := d) rfl h5 (eval_tmp h56) Try.underlying50 ld (by kernel_rfl))
              · intro s v hC hk hd
                have h57 : s.tmps[57]? = some (.pointer (some ⟨b_, d, none⟩)) := hd 2 (by kernel_rfl)
                exact ok_value rfl (ex_load1 rfl h57 ((M42.keep hC).get 1 rfl) gd5 Try.underlying45 rfl)
              · intro s v hC hk hd
                have h1 : s.tmps[1]? = some (.int .i64 (a : Nat)) := (hk 1 (by kernel_rfl)).trans (F39.get 4 rfl)
                exact ok_value rfl (ex_move rfl (eval_tmp h1))
              · intro s v hC hk hd
                have h5 : s.tmps[5]? = some ((.pointer (some ⟨b_, 0, none⟩))) := (hk 5 (by kernel_rfl)).trans (F39.get 3 rfl)
                have h59 : s.tmps[59]? = some (.int .i64 (a : Nat)) := hd 4 (by kernel_rfl)
                exact ok_value rfl (ex_idx (i := a) rfl h5 (eval_tmp h59) Try.underlying50 la (by kernel_rfl))
              · intro s v hC hk hd
                have h60 : s.tmps[60]? = some (.pointer (some ⟨b_, a, none⟩)) := hd 5 (by kernel_rfl)
                exact ok_value rfl (ex_load1 rfl h60 ((M42.keep hC).get 1 rfl) ga5 Try.underlying45 rfl)
              · intro s v hC hk hd
                have h58 : s.tmps[58]? = some (.int .u32 (D1 : Nat)) := hd 3 (by kernel_rfl)
                have h61 : s.tmps[61]? = some (.int .u32 (A2 : Nat)) := hd 6 (by kernel_rfl)
                exact ok_value rfl (by simp [execOp, Act.eval, h58, h61, go_sem]; exact x_D2)
              · intro s v hC hk hd
                have h62 : s.tmps[62]? = some (.int .u32 (xD2 : Nat)) := hd 7 (by kernel_rfl)
                exact ok_call rfl (by simp [Act.eval, h62, go_sem]) (k_D2 v)
              · intro s v hC hk hd
                have h5 : s.tmps[5]? = some ((.pointer (some ⟨b_, 0, none⟩))) := (hk 5 (by kernel_rfl)).trans (F39.get 3 rfl)
                have h55 : s.tmps[55]? = some (.int .i64 (d : Nat)) := hd 0 (by kernel_rfl)
                exact ok_value rfl (ex_idx (i := d) rfl h5 (eval_tmp h55) Try.underlying50 ld (by kernel_rfl))
            · intro nb w44 hC hf hne
              have M47 := M42.keep hC
              refine fr_all [0, 1, 12, 13, 14, 15, 16, 17] F39 (by kernel_rfl) fun a45 (F46 : Fr 84 a45 [(64, (.pointer (some ⟨b_, d, none⟩))), (63, (.int .u32 (D2 : Nat))), (10, (.pointer (some ⟨z, 0, none⟩))), (5, (.pointer (some ⟨b_, 0, none⟩))), (1, .int .i64 (a : Nat)), (2, .int .i64 (b : Nat)), (3, .int .i64 (c : Nat)), (4, .int .i64 (d : Nat))]) => ?_
              refine st_put F46 M47 (t := 64) (s := 63) (b := b_) (o := d) (i := 1) (j := 0) (m := 1) rfl rfl rfl rfl (by kernel_rfl) (by rw [cn_size]; simp only [List.length_set, lL]; exact ld) rfl rfl rfl fun w48 h50 => ?_
              have M49 : Mem w0.heap.size w0 w48 [(z, .cells (cn .u32 (List.replicate 16 0)) 50), (b_, .cells (cn .u32 ((((((L.set a A1).set d D1).set c C1).set b B1).set a A2).set d D2)) 50)] := by rw [cn_set] at h50; exact h50
              clear h50
              refine wpl_nil (then_n ?_)
              have ga6 := (cnset_ne (k := .u32) (l := (((((L.set a A1).set d D1).set c C1).set b B1).set a A2)) (x := D2) (Ne.symm had)).trans ga5
              have gb6 := (cnset_ne (k := .u32) (l := (((((L.set a A1).set d D1).set c C1).set b B1).set a A2)) (x := D2) (Ne.symm hbd)).trans gb5
              have gc6 := (cnset_ne (k := .u32) (l := (((((L.set a A1).set d D1).set c C1).set b B1).set a A2)) (x := D2) (Ne.symm hcd)).trans gc5
              have gd6 := cnset_eq (k := .u32) (l := (((((L.set a A1).set d D1).set c C1).set b B1).set a A2)) (x := D2) (by simp only [List.length_set, lL]; exact ld : d < List.length (((((L.set a A1).set d D1).set c C1).set b B1).set a A2))
              refine wp_seq (region_list w48.heap.size (C := fun w' => Below w48.heap.size w48 w') [.inl (.int .i64 (c : Nat)), .inl (.pointer (some ⟨b_, c, none⟩)), .inl (.int .u32 (C1 : Nat)), .inl (.int .i64 (d : Nat)), .inl (.pointer (some ⟨b_, d, none⟩)), .inl (.int .u32 (D2 : Nat)), .inl (.int .u32 (C2 : Nat)), .inl (.pointer (some ⟨b_, c, none⟩))] [] (by kernel_rfl) (by rw [F46.size]; kernel_rfl) ⟨rfl, rfl, rfl, Nat.le_refl _, fun _ _ => rfl⟩ (fun w1 w2 h1 h2 => h1.trans (h2.mono h1.size)) (fun i h => by simp at h) ?_ ?_)
              · refine ⟨?_, ?_, ?_, ?_, ?_, ?_, ?_, ?_, trivial⟩
                · intro s v hC hk hd
                  have h3 : s.tmps[3]? = some (.int .i64 (c : Nat)) := (hk 3 (by kernel_rfl)).trans (F46.get 6 rfl)
                  exact ok_value rfl (ex_move rfl (eval_tmp h3))
                · intro s v hC hk hd
                  have h5 : s.tmps[5]? = some ((.pointer (some ⟨b_, 0, none⟩))) := (hk 5 (by kernel_rfl)).trans (F46.get 3 rfl)
                  have h65 : s.tmps[65]? = some (.int .i64 (c : Nat)) := hd 0 (by kernel_rfl)
                  exact ok_value rfl (ex_idx (i := c) rfl h5 (eval_tmp h65) Try.underlying50 lc (by kernel_rfl))
                · intro s v hC hk hd
                  have h66 : s.tmps[66]? = some (.pointer (some ⟨b_, c, none⟩)) := hd 1 (by kernel_rfl)
                  exact ok_value rfl (ex_load1 rfl h66 ((M49.keep hC).get 1 rfl) gc6 Try.underlying45 rfl)
                · intro s v hC hk hd
                  have h4 : s.tmps[4]? = some (.int .i64 (d : Nat)) := (hk 4 (by kernel_rfl)).trans (F46.get 7 rfl)
                  exact ok_value rfl (ex_move rfl (eval_tmp h4))
                · intro s v hC hk hd
                  have h5 : s.tmps[5]? = some ((.pointer (some ⟨b_, 0, none⟩))) := (hk 5 (by kernel_rfl)).trans (F46.get 3 rfl)
                  have h68 : s.tmps[68]? = some (.int .i64 (d : Nat)) := hd 3 (by kernel_rfl)
                  exact ok_value rfl (ex_idx (i := d) rfl h5 (eval_tmp h68) Try.underlying50 ld (by kernel_rfl))
                · intro s v hC hk hd
                  have h69 : s.tmps[69]? = some (.pointer (some ⟨b_, d, none⟩)) := hd 4 (by kernel_rfl)
                  exact ok_value rfl (ex_load1 rfl h69 ((M49.keep hC).get 1 rfl) gd6 Try.underlying45 rfl)
                · intro s v hC hk hd
                  have h67 : s.tmps[67]? = some (.int .u32 (C1 : Nat)) := hd 2 (by kernel_rfl)
                  have h70 : s.tmps[70]? = some (.int .u32 (D2 : Nat)) := hd 5 (by kernel_rfl)
                  exact ok_value rfl (by simp [execOp, Act.eval, h67, h70, go_sem]; rw [IntKind.wrap_u32']; exact s_C2)
                · intro s v hC hk hd
                  have h5 : s.tmps[5]? = some ((.pointer (some ⟨b_, 0, none⟩))) := (hk 5 (by kernel_rfl)).trans (F46.get 3 rfl)
                  have h65 : s.tmps[65]? = some (.int .i64 (c : Nat)) := hd 0 (by kernel_rfl)
                  exact ok_value rfl (ex_idx (i := c) rfl h5 (eval_tmp h65) Try.underlying50 lc (by kernel_rfl))
              · intro nb w51 hC hf hne
                have M54 := M49.keep hC
                refine fr_all [0, 1, 10, 11, 12, 13, 14, 15] F46 (by kernel_rfl) fun a52 (F53 : Fr 84 a52 [(72, (.pointer (some ⟨b_, c, none⟩))), (71, (.int .u32 (C2 : Nat))), (10, (.pointer (some ⟨z, 0, none⟩))), (5, (.pointer (some ⟨b_, 0, none⟩))), (1, .int .i64 (a : Nat)), (2, .int .i64 (b : Nat)), (3, .int .i64 (c : Nat)), (4, .int .i64 (d : Nat))]) => ?_
                refine st_put F53 M54 (t := 72) (s := 71) (b := b_) (o := c) (i := 1) (j := 0) (m := 1) rfl rfl rfl rfl (by kernel_rfl) (by rw [cn_size]; simp only [List.length_set, lL]; exact lc) rfl rfl rfl fun w55 h57 => ?_
                have M56 : Mem w0.heap.size w0 w55 [(z, .cells (cn .u32 (List.replicate 16 0)) 50), (b_, .cells (cn .u32 (((((((L.set a A1).set d D1).set c C1).set b B1).set a A2).set d D2).set c C2)) 50)] := by rw [cn_set] at h57; exact h57
                clear h57
                refine wpl_nil (then_n ?_)
                have ga7 := (cnset_ne (k := .u32) (l := ((((((L.set a A1).set d D1).set c C1).set b B1).set a A2).set d D2)) (x := C2) (Ne.symm hac)).trans ga6
                have gb7 := (cnset_ne (k := .u32) (l := ((((((L.set a A1).set d D1).set c C1).set b B1).set a A2).set d D2)) (x := C2) (Ne.symm hbc)).trans gb6
                have gc7 := cnset_eq (k := .u32) (l := ((((((L.set a A1).set d D1).set c C1).set b B1).set a A2).set d D2)) (x := C2) (by simp only [List.length_set, lL]; exact lc : c < List.length ((((((L.set a A1).set d D1).set c C1).set b B1).set a A2).set d D2))
                have gd7 := (cnset_ne (k := .u32) (l := ((((((L.set a A1).set d D1).set c C1).set b B1).set a A2).set d D2)) (x := C2) hcd).trans gd6
                refine wp_seq (region_list w55.heap.size (C := fun w' => Below w55.heap.size w55 w') [.inl (.int .i64 (b : Nat)), .inl (.int .i64 (b : Nat)), .inl (.pointer (some ⟨b_, b, none⟩)), .inl (.int .u32 (B1 : Nat)), .inl (.int .i64 (c : Nat)), .inl (.pointer (some ⟨b_, c, none⟩)), .inl (.int .u32 (C2 : Nat)), .inl (.int .u32 (xB2 : Nat)), .inl (.int .u32 (B2 : Nat)), .inl (.pointer (some ⟨b_, b, none⟩))] [] (by kernel_rfl) (by rw [F53.size]; kernel_rfl) ⟨rfl, rfl, rfl, Nat.le_refl _, fun _ _ => rfl⟩ (fun w1 w2 h1 h2 => h1.trans (h2.mono h1.size)) (fun i h => by simp at h) ?_ ?_)
                · refine ⟨?_, ?_, ?_, ?_, ?_, ?_, ?_, ?_, ?_, ?_, trivial⟩
                  · intro s v hC hk hd
                    have h2 : s.tmps[2]? = some (.int .i64 (b : Nat)) := (hk 2 (by kernel_rfl)).trans (F53.get 5 rfl)
                    exact ok_value rfl (ex_move rfl (eval_tmp h2))
                  · intro s v hC hk hd
                    have h2 : s.tmps[2]? = some (.int .i64 (b : Nat)) := (hk 2 (by kernel_rfl)).trans (F53.get 5 rfl)
                    exact ok_value rfl (ex_move rfl (eval_tmp h2))
                  · intro s v hC hk hd
                    have h5 : s.tmps[5]? = some ((.pointer (some ⟨b_, 0, none⟩))) := (hk 5 (by kernel_rfl)).trans (F53.get 3 rfl)
                    have h74 : s.tmps[74]? = some (.int .i64 (b : Nat)) := hd 1 (by kernel_rfl)
                    exact ok_value rfl (ex_idx (i := b) rfl h5 (eval_tmp h74) Try.underlying50 lb (by kernel_rfl))
                  · intro s v hC hk hd
                    have h75 : s.tmps[75]? = some (.pointer (some ⟨b_, b, none⟩)) := hd 2 (by kernel_rfl)
                    exact ok_value rfl (ex_load1 rfl h75 ((M56.keep hC).get 1 rfl) gb7 Try.underlying45 rfl)
                  · intro s v hC hk hd
                    have h3 : s.tmps[3]? = some (.int .i64 (c : Nat)) := (hk 3 (by kernel_rfl)).trans (F53.get 6 rfl)
                    exact ok_value rfl (ex_move rfl (eval_tmp h3))
                  · intro s v hC hk hd
                    have h5 : s.tmps[5]? = some ((.pointer (some ⟨b_, 0, none⟩))) := (hk 5 (by kernel_rfl)).trans (F53.get 3 rfl)
                    have h77 : s.tmps[77]? = some (.int .i64 (c : Nat)) := hd 4 (by kernel_rfl)
                    exact ok_value rfl (ex_idx (i := c) rfl h5 (eval_tmp h77) Try.underlying50 lc (by kernel_rfl))
                  · intro s v hC hk hd
                    have h78 : s.tmps[78]? = some (.pointer (some ⟨b_, c, none⟩)) := hd 5 (by kernel_rfl)
                    exact ok_value rfl (ex_load1 rfl h78 ((M56.keep hC).get 1 rfl) gc7 Try.underlying45 rfl)
                  · intro s v hC hk hd
                    have h76 : s.tmps[76]? = some (.int .u32 (B1 : Nat)) := hd 3 (by kernel_rfl)
                    have h79 : s.tmps[79]? = some (.int .u32 (C2 : Nat)) := hd 6 (by kernel_rfl)
                    exact ok_value rfl (by simp [execOp, Act.eval, h76, h79, go_sem]; exact x_B2)
                  · intro s v hC hk hd
                    have h80 : s.tmps[80]? = some (.int .u32 (xB2 : Nat)) := hd 7 (by kernel_rfl)
                    exact ok_call rfl (by simp [Act.eval, h80, go_sem]) (k_B2 v)
                  · intro s v hC hk hd
                    have h5 : s.tmps[5]? = some ((.pointer (some ⟨b_, 0, none⟩))) := (hk 5 (by kernel_rfl)).trans (F53.get 3 rfl)
                    have h73 : s.tmps[73]? = some (.int .i64 (b : Nat)) := hd 0 (by kernel_rfl)
                    exact ok_value rfl (ex_idx (i := b) rfl h5 (eval_tmp h73) Try.underlying50 lb (by kernel_rfl))
                · intro nb w58 hC hf hne
                  have M61 := M56.keep hC
                  refine fr_all [0, 1, 12, 13, 14, 15, 16, 17] F53 (by kernel_rfl) fun a59 (F60 : Fr 84 a59 [(82, (.pointer (some ⟨b_, b, none⟩))), (81, (.int .u32 (B2 : Nat))), (10, (.pointer (some ⟨z, 0, none⟩))), (5, (.pointer (some ⟨b_, 0, none⟩))), (1, .int .i64 (a : Nat)), (2, .int .i64 (b : Nat)), (3, .int .i64 (c : Nat)), (4, .int .i64 (d : Nat))]) => ?_
                  refine st_put F60 M61 (t := 82) (s := 81) (b := b_) (o := b) (i := 1) (j := 0) (m := 1) rfl rfl rfl rfl (by kernel_rfl) (by rw [cn_size]; simp only [List.length_set, lL]; exact lb) rfl rfl rfl fun w62 h64 => ?_
                  have M63 : Mem w0.heap.size w0 w62 [(z, .cells (cn .u32 (List.replicate 16 0)) 50), (b_, .cells (cn .u32 ((((((((L.set a A1).set d D1).set c C1).set b B1).set a A2).set d D2).set c C2).set b B2)) 50)] := by rw [cn_set] at h64; exact h64
                  clear h64
                  refine wpl_nil (then_n ?_)
                  have ga8 := (cnset_ne (k := .u32) (l := (((((((L.set a A1).set d D1).set c C1).set b B1).set a A2).set d D2).set c C2)) (x := B2) (Ne.symm hab)).trans ga7
                  have gb8 := cnset_eq (k := .u32) (l := (((((((L.set a A1).set d D1).set c C1).set b B1).set a A2).set d D2).set c C2)) (x := B2) (by simp only [List.length_set, lL]; exact lb : b < List.length (((((((L.set a A1).set d D1).set c C1).set b B1).set a A2).set d D2).set c C2))
                  have gc8 := (cnset_ne (k := .u32) (l := (((((((L.set a A1).set d D1).set c C1).set b B1).set a A2).set d D2).set c C2)) (x := B2) hbc).trans gc7
                  have gd8 := (cnset_ne (k := .u32) (l := (((((((L.set a A1).set d D1).set c C1).set b B1).set a A2).set d D2).set c C2)) (x := B2) hbd).trans gd7
                  rw [← HQ] at M63
                  have lQ : (cn .u32 (qAt L a b c d)).size = 16 := by rw [cn_size, (hL.qAt a b c d).len]
                  refine wp_seq (wp_region_list ?_)
                  refine st_load [0, 3] F60 M63 (k := 16) (d := 83) (t := 5) (b := b_) (i := 1) (j := 3) rfl rfl rfl Try.underlying50 rfl (by kernel_rfl) lQ rfl rfl (by decide) fun a65 (F66 : Fr 84 a65 [(83, (.agg (cn .u32 (qAt L a b c d)))), (10, (.pointer (some ⟨z, 0, none⟩)))]) => ?_
                  refine st_store F66 M63 (k := 16) (t := 10) (s := 83) (b := z) (i := 0) (j := 1) (m := 0) rfl rfl rfl rfl (by kernel_rfl) (by rw [cn_size]; rfl) lQ (cn_one _ _) rfl rfl fun w67 (M68 : Mem w0.heap.size w0 w67 [(z, .cells (cn .u32 (qAt L a b c d)) 50), (b_, .cells (cn .u32 (qAt L a b c d)) 50)]) => ?_
                  refine wpl_nil (then_n ?_)
                  exact wp_ret (ret_cell (i := 0) (j := 1) F66 M68 Try.results39 rfl rfl Try.underlying50 rfl (by kernel_rfl) lQ ⟨rfl, M68.below⟩)

end Go.Proofs.Ytcmoohkkaibgkaa
