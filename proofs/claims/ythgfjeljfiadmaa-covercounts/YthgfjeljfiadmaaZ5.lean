/- Several texts in one: Package table: weights, the total, the number of a word. Package table: tables made; draws. Package table: draws. Covers: their texts, how many they are; a row made with room. No program in this text. Calls that turn several blocks; rows that a walk owns, read for a while. Package wire, package cover: requests. Package cover: Make. Package cover: Make of anything. The laws of covers: what they share. Maps: what one holds, as a list; made, asked, written, counted. 'for k, v := range m': the entries come out in whatever order, each once. What strings.Builder's own text does: a pointer held against nil and against itself, turned to a bare pointer and back; a row's bytes as a string. Requests that meet: numbers. -/
import Derived.Test.YthgfjeljfiadmaaZ4
import Derived.Test.YthgfjeljfiadmaaZ3
import Derived.Laws.StructEq
import Derived.Laws.Small
import Derived.Laws.BitsAllLaws
import Derived.OrdersHeld
import Derived.DeepKeys5
import Derived.Maps.RangeRun
import Derived.Test.YthgfjeljfiadmaaZ2
import Derived.Laws.Externs
namespace Go.Proofs.Ythgfjeljfiadmaa
open Go.RowKit
theorem kweight_any (g : Nat) (a b r m : Nat) (hk : TOk a b r m) (n : Int) (h1 : -9223372036854775808 ≤ n) (h2 : n < 9223372036854775808) (w0 : World) (hg : w0.heap[g]? = some (KB a b r m)) :
    Calls Try.prog 47 #[pT g, .int .i64 n] w0 fun e w' => ∃ v, e = .returned (.agg #[nv (wgZ a b r m n) v]) ∧ Below w0.heap.size w0 w' ∧ NatNew w0.heap.size w' (nv (wgZ a b r m n) v) (wgZ a b r m n) := by
  have k4 := hk.2.2.2.1
  rcases Int.lt_or_le n ((m : Int) - r) with h | h
  · rw [wg_lo h]; exact (kweight_lo g a b r m hk n h h1 w0 hg).mono fun _ _ ⟨v, e, t, q⟩ => ⟨v, e, turn_below hg t, q⟩
  · rcases Int.lt_or_le ((m : Int) + r) n with h' | h'
    · rw [wg_hi h']; exact (kweight_hi g a b r m hk n h' h2 w0 hg).mono fun _ _ ⟨v, e, t, q⟩ => ⟨v, e, turn_below hg t, q⟩
    · rcases Int.lt_or_le n m with h3 | h3
      · obtain ⟨d, rfl, hd⟩ : ∃ d : Nat, n = ((m - d : Nat) : Int) ∧ d ≤ r := ⟨(m - n).toNat, by omega, by omega⟩
        rw [wg_in h h', show (((m - d : Nat) : Int) - m).natAbs = d by omega]
        exact (kweight_dn g a b r m hk d hd w0 hg).mono fun _ _ ⟨v, e, t, q⟩ => ⟨v, e, turn_below hg t, q⟩
      · obtain ⟨d, rfl, hd⟩ : ∃ d : Nat, n = ((m + d : Nat) : Int) ∧ d ≤ r := ⟨(n - m).toNat, by omega, by omega⟩
        rw [wg_in h h', show (((m + d : Nat) : Int) - m).natAbs = d by omega]
        exact (kweight_up g a b r m hk d hd w0 hg).mono fun _ _ ⟨v, e, t, q⟩ => ⟨v, e, turn_below hg t, q⟩
theorem kone_O {w : World} {g a b r m : Nat} (hg : w.heap[g]? = some (KB a b r m)) : ∃ O : Blks, Has w O ∧ Distinct O ∧ KO O g a b r m := ⟨[(g, KB a b r m)], one_has hg, ⟨fun y hy => (nomatch hy), trivial⟩, by simp [KO]⟩
set_option maxRecDepth 100000 in
theorem ktotal_O (O : Blks) (hD : Distinct O) (g : Nat) (a b r m : Nat) (hk : TOk a b r m) (hK : KO O g a b r m) (w0 : World) (H : Has w0 O) :
    Calls Try.prog 31 #[pT g] w0 fun e w' => ∃ v, e = .returned (.agg #[nv (toN a b r m (2 * r + 1)) v]) ∧ Below w0.heap.size w0 w' ∧ NatNew w0.heap.size w' (nv (toN a b r m (2 * r + 1)) v) (toN a b r m (2 * r + 1)) := by
  refine enter_fr Try.func31 rfl Try.ntmps31 (by simp) fun ac (FF : Fr 21 ac [(0, pT g)]) => ?_
  have MM : MemS (fun k => k < w0.heap.size ∧ ∀ x ∈ O, x.1 ≠ k) w0 w0 O [] := MemS.startN H hD
  have ⟨k1, k2, k3, k4, k5⟩ := hk
  refine wp_seq (rg_c FF MM [] 3 [] [] (fun br => fun _ _ FF1 MM1 => then_n ?_))
  refine wp_seq (rg_c FF1 MM1 [] 4 [] [] (fun bs => fun _ _ FF2 MM2 => then_n ?_))
  refine wp_seq ?_
  refine wp_seq (rg_c FF2 MM2 [(1, u_ 1 (iN (2 * r + 1)))] 8 [] [5] (⟨⟨en_kcount, fun w Hw => kcount_any g a b r m hk w (hK.at (Has.tl (Has.tl Hw)))⟩, fun _ _ FF3 MM3 => then_n ?_⟩))
  refine wp_for (fun a' w' => ∃ O1 : Blks, ∃ i : Nat, ∃ v : Value, i ≤ 2 * r + 1 ∧ (∀ x ∈ O, x ∈ O1) ∧ Nats O1 [((nv (toN a b r m i) v), toN a b r m i)] ∧ (∀ g, (nv (toN a b r m i) v).ownBlock = some g → w0.heap.size ≤ g) ∧ Fr 21 a' [(7, iN i), (6, iN (2 * r + 1)), (3, pT bs), (2, pT br), (0, pT g)] ∧ MemS (fun k => k < w0.heap.size ∧ ∀ x ∈ O, x.1 ≠ k) w0 w' ((bs, oC #[nv (toN a b r m i) v] 76) :: (br, oC #[.slice none 0 0] 76) :: O1) []) (fun a' _ => (2 * r + 1 - cnt 7 a').toNat) ⟨O, 0, (.slice none 0 0), Nat.zero_le _, fun _ h => h, .cons (natO_nil O) (.nil _), (fun g hg => by cases hg), FF3.pick [0, 1, 2, 3, 4], MM3⟩ ?_
  rintro ac4 wd4 ⟨O1, i, v, hi, hsb, hN1, hfr, FF4, MM4⟩
  have hK1 := hK.mono hsb
  have hc := cnt_of (FF4.get 0 rfl)
  refine rg_c FF4 MM4 [] 9 [] [] (fun _ _ FF5 MM5 => ?_)
  by_cases hlt : i < (2 * r + 1)
  · skip
    refine then_n (.inl ⟨(FF5.ev 0 rfl).trans (dec_t hlt), ?_⟩)
    have hi9 : i ≤ 8 := by omega
    refine wp_seq (rg_c FF5 MM5 [] 8 [] [] (fun _ wd6 FF6 MM6 => then_n ?_))
    have h0w := MM6.size
    refine rg_pred FF6 MM6 [.inl (aG #[nv (toN a b r m i) v]), .inl (pT g), .inl (pT g), .inl (iN (m - r)), .inl (iN i), .inl (iN ((m - r) + i)), (.inr (fun v => .agg #[nv (wgZ a b r m ((m - r + i : Nat) : Int)) v], fun v w => NatNew wd6.heap.size w (nv (wgZ a b r m ((m - r + i : Nat) : Int)) v) (wgZ a b r m ((m - r + i : Nat) : Int))) : Spec), (.inr (fun v => .slice (pOf v) 2 2, fun v w => RowNs w (pOf v) [toN a b r m i, wgZ a b r m ((m - r + i : Nat) : Int)]) : Spec), (.inr (fun v => .agg #[nv (toN a b r m (i + 1)) v], fun v w => NatNew wd6.heap.size w (nv (toN a b r m (i + 1)) v) (toN a b r m (i + 1))) : Spec)] [some (b_ 0), some (o_), some (o_), some (u_ 1 (iN (m - r))), some (o_), some (o_), none, some (o_), none] [18, 4, 7, 6, 3, 2, 0] (fun lx wq => [(bs = bs ∧ (#[nv (toN a b r m i) v] : Array Value).size = 1 ∧ aG #[nv (toN a b r m i) v] = aG #[nv (toN a b r m i) v]), (pT g = pT g), (pT g = pT g), (CallP Try.prog 15 [pT g] ((bs, oC #[nv (toN a b r m i) v] 76) :: (br, oC #[.slice none 0 0] 76) :: O1) (iN (m - r)) ∧ iN (m - r) = iN (m - r)), (iN i = iN i), ((m - r) + i < 9223372036854775808 ∧ iN ((m - r) + i) = iN ((m - r) + i)), (CallQ Try.prog 47 [pT g, iN ((m - r) + i)] wq (.inr (fun v => .agg #[nv (wgZ a b r m ((m - r + i : Nat) : Int)) v], fun v w => NatNew wd6.heap.size w (nv (wgZ a b r m ((m - r + i : Nat) : Int)) v) (wgZ a b r m ((m - r + i : Nat) : Int))) : Spec)), (NatNew wd6.heap.size wq (nv (wgZ a b r m ((m - r + i : Nat) : Int)) (lx 6)) (wgZ a b r m ((m - r + i : Nat) : Int)) → (∀ w', Below wq.heap.size wq w' → w'.heap[wq.heap.size]? = some (oC #[nv (toN a b r m i) v, nv (wgZ a b r m ((m - r + i : Nat) : Int)) (lx 6)] 76) → ∃ y, Value.slice (some ⟨wq.heap.size, 0, none⟩) 2 2 = (fun v => .slice (pOf v) 2 2) y ∧ RowNs w' (pOf y) [toN a b r m i, wgZ a b r m ((m - r + i : Nat) : Int)])), (RowNs wq (pOf (lx 7)) [toN a b r m i, wgZ a b r m ((m - r + i : Nat) : Int)] → NatNew wd6.heap.size wq (nv (wgZ a b r m ((m - r + i : Nat) : Int)) (lx 6)) (wgZ a b r m ((m - r + i : Nat) : Int)) → CallQ Try.prog 46 [.slice (pOf (lx 7)) 2 2] wq (.inr (fun v => .agg #[nv (toN a b r m (i + 1)) v], fun v w => NatNew wd6.heap.size w (nv (toN a b r m (i + 1)) v) (toN a b r m (i + 1))) : Spec))]) (fun lx => [(18, aG #[nv (toN a b r m (i + 1)) (lx 8)]), (4, iN i), (7, iN i), (6, iN (2 * r + 1)), (3, pT bs), (2, pT br), (0, pT g)]) (by kernel_rfl) (by kernel_rfl) (by kernel_rfl) ⟨(fun v w w1 => natNew_st _ _ (nv _ v) w w1), (rowNs_st [toN a b r m i, wgZ a b r m ((m - r + i : Nat) : Int)]), (fun v w w1 => natNew_st _ _ (nv _ v) w w1), trivial⟩ (fun _ _ => by kernel_rfl) (fun _ => by kernel_rfl) (fun lx wq hB9 hH9 => ⟨(⟨rfl, rfl, rfl⟩), (rfl), (rfl), (⟨⟨en_kleast, fun w Hw => kleast_any g a b r m hk w (hK1.at (Has.tl (Has.tl Hw)))⟩, rfl⟩), (rfl), (⟨by omega, rfl⟩), (⟨en_kweight, (kweight_any g a b r m hk ((m - r + i : Nat) : Int) (by omega) (by omega) wq (hK1.at (Has.tl (Has.tl hH9)))).mono fun _ _ ⟨v, h1, h2, h3⟩ => ⟨v, h1, h2, h3.mono hB9.size⟩⟩), (fun h6_0 => fun w' hb hh => ⟨.slice (some ⟨wq.heap.size, 0, none⟩) 2 2, rfl, _, nats2 hh (((hN1.get 0 rfl).at (Has.tl (Has.tl hH9))).keep hb) (h6_0.1.keep hb)⟩), (fun h7_0 h6_1 => ⟨en_nadd, (nadd2r (toN a b r m i) (wgZ a b r m ((m - r + i : Nat) : Int)) (b100 (by have := to_le hk i; have := wg_le hk ((m - r + i : Nat) : Int); omega) : (toN a b r m i) + (wgZ a b r m ((m - r + i : Nat) : Int)) < 18446744073709551616 ^ 100) wq h7_0).mono fun _ _ ⟨v, h1, h2, h3⟩ => ⟨v, h1, h2, h3.mono hB9.size⟩⟩), trivial⟩) (fun lx ac7 wd7 hx8 hB9 FF7 MM7 => ?_)
    obtain ⟨hl6, hl7, hl8, -⟩ := hx8
    generalize lx 6 = lv11 at *
    generalize lx 7 = lv12 at *
    generalize lx 8 = lv13 at *
    have hfrw : ∀ g, (nv (toN a b r m (i + 1)) lv13).ownBlock = some g → w0.heap.size ≤ g := fun g hg => Nat.le_trans h0w (hl8.2 g hg)
    obtain ⟨O14, MM150, hN16, hs17⟩ := MemS.addNatsT (K := [(bs, oC #[nv (toN a b r m i) v] 76), (br, oC #[.slice none 0 0] 76)]) (O := O1) MM6 MM7 rfl hl8 hN1
    have MM15 : MemS (fun k => k < w0.heap.size ∧ ∀ x ∈ O, x.1 ≠ k) w0 wd7 ((bs, oC #[nv (toN a b r m i) v] 76) :: (br, oC #[.slice none 0 0] 76) :: O14) [] := MM150
    have hK_18 := hK1.mono hs17
    have hz19 : ∀ x ∈ O, x ∈ O14 := fun x hx => hs17 x (hsb x hx)
    have hN9 : Nats O14 [((nv (toN a b r m (i + 1)) lv13), toN a b r m (i + 1))] := .cons (hN16.get 0 rfl) (.nil _)
    refine rp_c 1 FF7 MM15 [(0, b_ 0)] 8 [] [] (⟨rfl, rfl, rfl, (by kernel_rfl), rfl, fun _ _ FF20 MM20 => ?_⟩)
    refine wpl_nil ?_
    refine inb_n (then_n ?_)
    refine rg_c FF20 MM20 [] 8 [] [] (⟨by omega, fun _ _ FF21 MM21 => ?_⟩)
    have hd := cnt_of (FF21.get 0 rfl)
    refine then_n ⟨⟨O14, i + 1, lv13, by omega, hz19, hN9, hfrw, FF21.pick [0, 2, 3, 4, 5], MM21⟩, ?_⟩
    rw [hc, hd]; omega
  · skip
    refine then_n (.inr ⟨(FF5.ev 0 rfl).trans (dec_f hlt), ?_⟩)
    obtain rfl : i = 2 * r + 1 := by omega
    refine then_n ?_
    refine wp_seq (rg_c FF5 MM5 [(0, b_ 0), (0, b_ 1)] 8 [] [] (⟨rfl, rfl, rfl, rfl, rfl, (by kernel_rfl), rfl, fun _ _ FF22 MM22 => then_n ?_⟩))
    refine wp_ret ?_
    repeat first | refine then_ret ?_ | refine inb_ret ?_
    exact (retc FF22 MM22 (k := 1) (i := 1) (j := 3) Try.results31 rfl rfl Try.underlying76 rfl (by kernel_rfl) rfl ⟨v, rfl, MM22.belowN H (fun _ hx => List.mem_cons_of_mem _ (List.mem_cons_of_mem _ (hsb _ hx))), ⟨(hN1.get 0 rfl).at (Has.tl (Has.tl MM22.hasL)), hfr⟩⟩)
theorem ktotal_any (g : Nat) (a b r m : Nat) (hk : TOk a b r m) (w0 : World) (hg : w0.heap[g]? = some (KB a b r m)) : Calls Try.prog 31 #[pT g] w0 fun e w' => ∃ v, e = .returned (.agg #[nv (toN a b r m (2 * r + 1)) v]) ∧ Below w0.heap.size w0 w' ∧ NatNew w0.heap.size w' (nv (toN a b r m (2 * r + 1)) v) (toN a b r m (2 * r + 1)) := by
  obtain ⟨O, h1, h2, h3⟩ := kone_O hg
  exact ktotal_O O h2 g a b r m hk h3 w0 h1
set_option maxRecDepth 100000 in
theorem kat_O (O : Blks) (hD : Distinct O) (g : Nat) (a b r m : Nat) (hk : TOk a b r m) (hK : KO O g a b r m) (N : Nat) (y : Value) (hW : NatO O (nv N y) N) (hs : qsz N < 1000000) (w0 : World) (H : Has w0 O) :
    Calls Try.prog 32 #[pT g, .agg #[nv N y]] w0 fun e w' => e = .returned (.tuple #[iN (aN a b r m N), .bool (decide (N < toN a b r m (2 * r + 1)))]) ∧ Below w0.heap.size w0 w' := by
  refine enter_fr Try.func32 rfl Try.ntmps32 (by simp) fun ac (FF : Fr 30 ac [(0, pT g), (1, aG #[nv N y])]) => ?_
  have MM : MemS (fun k => k < w0.heap.size ∧ ∀ x ∈ O, x.1 ≠ k) w0 w0 O [] := MemS.startN H hD
  have ⟨k1, k2, k3, k4, k5⟩ := hk
  refine wp_seq (rg_c FF MM [] 6 [] [1] (fun bx => fun _ _ FF1 MM1 => then_n ?_))
  refine wp_seq (rg_c FF1 MM1 [] 7 [] [] (fun bs => fun _ _ FF2 MM2 => then_n ?_))
  refine wp_seq ?_
  refine wp_seq (rg_c FF2 MM2 [(1, u_ 1 (iN (2 * r + 1)))] 12 [] [9] (⟨⟨en_kcount, fun w Hw => kcount_any g a b r m hk w (hK.at (Has.tl (Has.tl Hw)))⟩, fun _ _ FF3 MM3 => then_n ?_⟩))
  refine wp_for (fun a' w' => ∃ O1 : Blks, ∃ i : Nat, ∃ v : Value, i ≤ 2 * r + 1 ∧ (∀ x ∈ O, x ∈ O1) ∧ Nats O1 [((nv (toN a b r m i) v), toN a b r m i)] ∧ (∀ g, (nv (toN a b r m i) v).ownBlock = some g → w0.heap.size ≤ g) ∧ toN a b r m i ≤ N ∧ Fr 30 a' [(11, iN i), (10, iN (2 * r + 1)), (6, pT bs), (3, pT bx), (0, pT g)] ∧ MemS (fun k => k < w0.heap.size ∧ ∀ x ∈ O, x.1 ≠ k) w0 w' ((bs, oC #[nv (toN a b r m i) v] 76) :: (bx, oC #[nv N y] 76) :: O1) []) (fun a' _ => (2 * r + 1 - cnt 11 a').toNat) ⟨O, 0, (.slice none 0 0), Nat.zero_le _, fun _ h => h, .cons (natO_nil O) (.nil _), (fun g hg => by cases hg), Nat.zero_le _, FF3.pick [0, 1, 2, 5, 6], MM3⟩ ?_
  rintro ac4 wd4 ⟨O1, i, v, hi, hsb, hN1, hfr, hle, FF4, MM4⟩
  have hK1 := hK.mono hsb
  have hN2 : Nats O1 [((nv (toN a b r m i) v), toN a b r m i), ((nv N y), N)] := .cons (hN1.get 0 rfl) (.cons (hW.mono hsb) (.nil _))
  have hc := cnt_of (FF4.get 0 rfl)
  refine rg_c FF4 MM4 [] 13 [] [] (fun _ _ FF5 MM5 => ?_)
  by_cases hlt : i < (2 * r + 1)
  · skip
    refine then_n (.inl ⟨(FF5.ev 0 rfl).trans (dec_t hlt), ?_⟩)
    have hi9 : i ≤ 8 := by omega
    refine wp_seq (rg_c FF5 MM5 [] 12 [] [] (fun _ _ FF6 MM6 => then_n ?_))
    refine wp_seq (rg_c FF6 MM6 [(1, u_ 1 (iN (m - r)))] 12 [] [] (⟨⟨en_kleast, fun w Hw => kleast_any g a b r m hk w (hK1.at (Has.tl (Has.tl Hw)))⟩, by omega, fun _ wd7 FF7 MM7 => then_n ?_⟩))
    have h0w := MM7.size
    refine wp_seq (rg_pred FF7 MM7 [.inl (aG #[nv (toN a b r m i) v]), .inl (pT g), .inl (iN ((m - r) + i)), (.inr (fun v => .agg #[nv (wgZ a b r m ((m - r + i : Nat) : Int)) v], fun v w => NatNew wd7.heap.size w (nv (wgZ a b r m ((m - r + i : Nat) : Int)) v) (wgZ a b r m ((m - r + i : Nat) : Int))) : Spec), (.inr (fun v => .slice (pOf v) 2 2, fun v w => RowNs w (pOf v) [toN a b r m i, wgZ a b r m ((m - r + i : Nat) : Int)]) : Spec), (.inr (fun v => .agg #[nv (toN a b r m (i + 1)) v], fun v w => NatNew wd7.heap.size w (nv (toN a b r m (i + 1)) v) (toN a b r m (i + 1))) : Spec)] [some (b_ 0), some (o_), some (o_), none, some (o_), none] [23, 8, 7, 11, 10, 6, 3, 0] (fun lx wq => [(bs = bs ∧ (#[nv (toN a b r m i) v] : Array Value).size = 1 ∧ aG #[nv (toN a b r m i) v] = aG #[nv (toN a b r m i) v]), (pT g = pT g), (iN ((m - r) + i) = iN ((m - r) + i)), (CallQ Try.prog 47 [pT g, iN ((m - r) + i)] wq (.inr (fun v => .agg #[nv (wgZ a b r m ((m - r + i : Nat) : Int)) v], fun v w => NatNew wd7.heap.size w (nv (wgZ a b r m ((m - r + i : Nat) : Int)) v) (wgZ a b r m ((m - r + i : Nat) : Int))) : Spec)), (NatNew wd7.heap.size wq (nv (wgZ a b r m ((m - r + i : Nat) : Int)) (lx 3)) (wgZ a b r m ((m - r + i : Nat) : Int)) → (∀ w', Below wq.heap.size wq w' → w'.heap[wq.heap.size]? = some (oC #[nv (toN a b r m i) v, nv (wgZ a b r m ((m - r + i : Nat) : Int)) (lx 3)] 76) → ∃ y, Value.slice (some ⟨wq.heap.size, 0, none⟩) 2 2 = (fun v => .slice (pOf v) 2 2) y ∧ RowNs w' (pOf y) [toN a b r m i, wgZ a b r m ((m - r + i : Nat) : Int)])), (RowNs wq (pOf (lx 4)) [toN a b r m i, wgZ a b r m ((m - r + i : Nat) : Int)] → NatNew wd7.heap.size wq (nv (wgZ a b r m ((m - r + i : Nat) : Int)) (lx 3)) (wgZ a b r m ((m - r + i : Nat) : Int)) → CallQ Try.prog 46 [.slice (pOf (lx 4)) 2 2] wq (.inr (fun v => .agg #[nv (toN a b r m (i + 1)) v], fun v w => NatNew wd7.heap.size w (nv (toN a b r m (i + 1)) v) (toN a b r m (i + 1))) : Spec))]) (fun lx => [(23, aG #[nv (toN a b r m (i + 1)) (lx 5)]), (8, iN ((m - r) + i)), (7, iN i), (11, iN i), (10, iN (2 * r + 1)), (6, pT bs), (3, pT bx), (0, pT g)]) (by kernel_rfl) (by kernel_rfl) (by kernel_rfl) ⟨(fun v w w1 => natNew_st _ _ (nv _ v) w w1), (rowNs_st [toN a b r m i, wgZ a b r m ((m - r + i : Nat) : Int)]), (fun v w w1 => natNew_st _ _ (nv _ v) w w1), trivial⟩ (fun _ _ => by kernel_rfl) (fun _ => by kernel_rfl) (fun lx wq hB9 hH9 => ⟨(⟨rfl, rfl, rfl⟩), (rfl), (rfl), (⟨en_kweight, (kweight_any g a b r m hk ((m - r + i : Nat) : Int) (by omega) (by omega) wq (hK1.at (Has.tl (Has.tl hH9)))).mono fun _ _ ⟨v, h1, h2, h3⟩ => ⟨v, h1, h2, h3.mono hB9.size⟩⟩), (fun h3_0 => fun w' hb hh => ⟨.slice (some ⟨wq.heap.size, 0, none⟩) 2 2, rfl, _, nats2 hh (((hN2.get 0 rfl).at (Has.tl (Has.tl hH9))).keep hb) (h3_0.1.keep hb)⟩), (fun h4_0 h3_1 => ⟨en_nadd, (nadd2r (toN a b r m i) (wgZ a b r m ((m - r + i : Nat) : Int)) (b100 (by have := to_le hk i; have := wg_le hk ((m - r + i : Nat) : Int); omega) : (toN a b r m i) + (wgZ a b r m ((m - r + i : Nat) : Int)) < 18446744073709551616 ^ 100) wq h4_0).mono fun _ _ ⟨v, h1, h2, h3⟩ => ⟨v, h1, h2, h3.mono hB9.size⟩⟩), trivial⟩) (fun lx ac8 wd8 hx9 hB10 FF8 MM8 => ?_))
    obtain ⟨hl3, hl4, hl5, -⟩ := hx9
    generalize lx 3 = lv12 at *
    generalize lx 4 = lv13 at *
    generalize lx 5 = lv14 at *
    have hfrw : ∀ g, (nv (toN a b r m (i + 1)) lv14).ownBlock = some g → w0.heap.size ≤ g := fun g hg => Nat.le_trans h0w (hl5.2 g hg)
    obtain ⟨O15, MM160, hN17, hs18⟩ := MemS.addNatsT (K := [(bs, oC #[nv (toN a b r m i) v] 76), (bx, oC #[nv N y] 76)]) (O := O1) MM7 MM8 rfl hl5 hN2
    have MM16 : MemS (fun k => k < w0.heap.size ∧ ∀ x ∈ O, x.1 ≠ k) w0 wd8 ((bs, oC #[nv (toN a b r m i) v] 76) :: (bx, oC #[nv N y] 76) :: O15) [] := MM160
    have hK_19 := hK1.mono hs18
    have hz20 : ∀ x ∈ O, x ∈ O15 := fun x hx => hs18 x (hsb x hx)
    have hN9 : Nats O15 [((nv (toN a b r m (i + 1)) lv14), toN a b r m (i + 1))] := .cons (hN17.get 0 rfl) (.nil _)
    refine rp_c 1 FF8 MM16 [(0, b_ 0)] 12 [] [] (⟨rfl, rfl, rfl, (by kernel_rfl), rfl, fun _ _ FF21 MM21 => ?_⟩)
    refine wpl_nil (then_n ?_)
    by_cases h4 : N < toN a b r m (i + 1)
    · skip
      refine wp_seq (rg_c FF21 MM21 [(0, b_ 1), (0, b_ 0), (0, u_ 1 (.int .i64 (cmpN N (toN a b r m (i + 1)) : Int))), (0, u_ 4 (.bool true))] 12 [27] [] (⟨rfl, rfl, rfl, rfl, ⟨en_ncmp, fun w Hw => ncmp_any N y hs (toN a b r m (i + 1)) lv14 w ((hN17.get 2 rfl).at (Has.tl (Has.tl Hw))) ((hN17.get 0 rfl).at (Has.tl (Has.tl Hw)))⟩, (dec_t ((cmp_neg _ _).2 h4)), fun _ _ FF22 MM22 => then_n ?_⟩))
      refine wp_cond_true (FF22.ev 0 rfl) ?_
      refine wp_seq (rg_c FF22 MM22 [] 12 [] [] (fun _ _ FF23 MM23 => then_n ?_))
      refine wp_ret ?_
      repeat first | refine then_ret ?_ | refine inb_ret ?_
      exact (ret_tup2 FF23 1 0 Try.results32 rfl rfl (by rw [a_yes (by omega) hle h4, decide_eq_true (atw_lt (by omega) h4)]; exact ⟨rfl, MM23.belowN H (fun _ hx => List.mem_cons_of_mem _ (List.mem_cons_of_mem _ (hz20 _ hx)))⟩))
    · skip
      refine wp_seq (rg_c FF21 MM21 [(0, b_ 1), (0, b_ 0), (0, u_ 1 (.int .i64 (cmpN N (toN a b r m (i + 1)) : Int))), (0, u_ 4 (.bool false))] 12 [27] [] (⟨rfl, rfl, rfl, rfl, ⟨en_ncmp, fun w Hw => ncmp_any N y hs (toN a b r m (i + 1)) lv14 w ((hN17.get 2 rfl).at (Has.tl (Has.tl Hw))) ((hN17.get 0 rfl).at (Has.tl (Has.tl Hw)))⟩, (dec_f (fun h => h4 ((cmp_neg _ _).1 h))), fun _ _ FF24 MM24 => then_n ?_⟩))
      refine wp_cond_false (FF24.ev 0 rfl) ?_
      refine wp_skip ?_
      refine inb_n (then_n ?_)
      refine rg_c FF24 MM24 [] 12 [] [] (⟨by omega, fun _ _ FF25 MM25 => ?_⟩)
      have hd := cnt_of (FF25.get 0 rfl)
      refine then_n ⟨⟨O15, i + 1, lv14, by omega, hz20, hN9, hfrw, Nat.le_of_not_lt h4, FF25.pick [0, 3, 4, 5, 6], MM25⟩, ?_⟩
      rw [hc, hd]; omega
  · skip
    refine then_n (.inr ⟨(FF5.ev 0 rfl).trans (dec_f hlt), ?_⟩)
    obtain rfl : i = 2 * r + 1 := by omega
    refine then_n ?_
    refine wp_seq (rg_c FF5 MM5 [] 12 [] [] (fun _ _ FF26 MM26 => then_n ?_))
    refine wp_ret ?_
    repeat first | refine then_ret ?_ | refine inb_ret ?_
    exact (ret_tup2 FF26 1 0 Try.results32 rfl rfl (by rw [a_no hle, decide_eq_false (Nat.not_lt.2 hle)]; exact ⟨rfl, MM26.belowN H (fun _ hx => List.mem_cons_of_mem _ (List.mem_cons_of_mem _ (hsb _ hx)))⟩))
theorem katone_O {w : World} {g a b r m N : Nat} {y : Value} (hg : w.heap[g]? = some (KB a b r m)) (hN : NatIn w (nv N y) N) : ∃ O : Blks, Has w O ∧ Distinct O ∧ KO O g a b r m ∧ NatO O (nv N y) N := by
  obtain ⟨O, h1, h2, h3, h4⟩ := nats_O [(nv N y, N)] (fun x hx => by simp at hx; subst hx; exact hN) [(g, KB a b r m)] (one_has hg) (by simp)
  exact ⟨O, h1, distinct_of h2, h4 _ (by simp), h3.get 0 rfl⟩
theorem kat_any (g : Nat) (a b r m : Nat) (hk : TOk a b r m) (N : Nat) (y : Value) (hs : qsz N < 1000000) (w0 : World) (hg : w0.heap[g]? = some (KB a b r m)) (hN : NatIn w0 (nv N y) N) : Calls Try.prog 32 #[pT g, .agg #[nv N y]] w0 fun e w' => e = .returned (.tuple #[iN (aN a b r m N), .bool (decide (N < toN a b r m (2 * r + 1)))]) ∧ Below w0.heap.size w0 w' := by
  obtain ⟨O, h1, h2, h3, h4⟩ := katone_O hg hN
  exact kat_O O h2 g a b r m hk h3 N y h4 hs w0 h1
end Go.Proofs.Ythgfjeljfiadmaa
namespace Go.Proofs.Ythgfjeljfiadmaa
open Go.RowKit
set_option maxRecDepth 100000 in
theorem kratio_yes (p q : Int) (h : 1 ≤ q ∧ q < p ∧ p ≤ 16) (_p1 : -9223372036854775808 ≤ p) (_p2 : p < 9223372036854775808) (_q1 : -9223372036854775808 ≤ q) (_q2 : q < 9223372036854775808) (w0 : World) :
    Calls Try.prog 33 #[.int .i64 p, .int .i64 q] w0 fun e w' => e = .returned (.bool true) ∧ Below w0.heap.size w0 w' := by
  refine enter_fr Try.func33 rfl Try.ntmps33 (by simp) fun ac (FF : Fr 16 ac [(0, .int .i64 (p : Int)), (1, .int .i64 (q : Int))]) => ?_
  have MM := MemS.start w0
  obtain ⟨h1, h2, h3⟩ := h
  refine wp_seq (rg_c FF MM [] 5 [] [] (fun _ _ FF1 MM1 => then_n ?_))
  refine wp_seq (rg_c FF1 MM1 [(1, w_ 6), (3, w_ 6), (3, w_ 6)] 0 [4] [] (⟨by omega, by omega, by omega, fun _ _ FF2 MM2 => then_n ?_⟩))
  refine wp_ret ?_
  repeat first | refine then_ret ?_ | refine inb_ret ?_
  exact (ret_fr FF2 0 Try.results33 rfl ⟨rfl, MM2.below⟩)
set_option maxRecDepth 100000 in
theorem kspan_yes (p q : Int) (h : 0 ≤ p ∧ p ≤ q ∧ q + p ≤ 8) (_p1 : -9223372036854775808 ≤ p) (_p2 : p < 9223372036854775808) (_q1 : -9223372036854775808 ≤ q) (_q2 : q < 9223372036854775808) (w0 : World) :
    Calls Try.prog 34 #[.int .i64 p, .int .i64 q] w0 fun e w' => e = .returned (.bool true) ∧ Below w0.heap.size w0 w' := by
  refine enter_fr Try.func34 rfl Try.ntmps34 (by simp) fun ac (FF : Fr 18 ac [(0, .int .i64 (p : Int)), (1, .int .i64 (q : Int))]) => ?_
  have MM := MemS.start w0
  obtain ⟨h1, h2, h3⟩ := h
  refine wp_seq (rg_c FF MM [] 5 [] [] (fun _ _ FF1 MM1 => then_n ?_))
  refine wp_seq (rg_c FF1 MM1 [(1, w_ 6), (3, w_ 6), (4, u_ 4 (.int .i64 (8 - p : Int))), (0, w_ 6)] 0 [4] [] (⟨by omega, by omega, by omega, by omega, (vZ (by omega)), by omega, fun _ _ FF2 MM2 => then_n ?_⟩))
  refine wp_ret ?_
  repeat first | refine then_ret ?_ | refine inb_ret ?_
  exact (ret_fr FF2 0 Try.results34 rfl ⟨rfl, MM2.below⟩)
/-- A table that was made. -/
def NewK (a b r m : Nat) (w w' : World) (v : Value) : Prop := ∃ g, v = pT g ∧ Below w.heap.size w w' ∧ w.heap.size ≤ g ∧ w'.heap[g]? = some (KB a b r m)
set_option maxRecDepth 100000 in
theorem knew_yes (a b r m : Nat) (hk : TOk a b r m) (w0 : World) : Calls Try.prog 21 #[iN a, iN b, iN r, iN m] w0 fun e w' => ∃ v, e = .returned (.tuple #[v, iN 0]) ∧ NewK a b r m w0 w' v := by
  have ⟨k1, k2, k3, k4, k5⟩ := hk
  refine enter_fr Try.func21 rfl Try.ntmps21 (by simp) fun ac (FF : Fr 26 ac [(0, iN a), (1, iN b), (2, iN r), (3, iN m)]) => ?_
  have MM := MemS.start w0
  refine wp_seq (rg_c FF MM [] 9 [9] [] (fun _ _ FF1 MM1 => then_n ?_))
  refine wp_seq ?_
  refine wp_seq (rg_c FF1 MM1 [(2, t_ (.bool true)), (4, t_ (.bool true))] 10 [19] [] (⟨(callP_of en_kratio (kratio_yes ((a : Nat) : Int) ((b : Nat) : Int) ⟨by omega, by omega, by omega⟩ (by omega) (by omega) (by omega) (by omega)) _), (callP_of en_kspan (kspan_yes ((r : Nat) : Int) ((m : Nat) : Int) ⟨by omega, by omega, by omega⟩ (by omega) (by omega) (by omega) (by omega)) _), fun _ _ FF2 MM2 => then_n ?_⟩))
  refine wp_cond_false (FF2.ev 0 rfl) ?_
  refine wp_skip ?_
  refine then_n ?_
  refine wp_seq (rg_c FF2 MM2 [(4, t_ (aG #[iN a, iN b, iN r, iN m]))] 9 [9] [] (⟨(by kernel_rfl), fun bt => fun _ _ FF3 MM3 => then_n ?_⟩))
  refine wp_ret ?_
  repeat first | refine then_ret ?_ | refine inb_ret ?_
  exact (ret_tup2 FF3 1 0 Try.results21 rfl rfl ⟨_, rfl, bt, rfl, MM3.below, MM3.fresh 0 rfl, MM3.get 0 rfl⟩)
theorem en_lawOf : Enters Try.prog 9 := fun args w => by simp [go_sem]
set_option maxRecDepth 100000 in
theorem kof_yes (a b r m : Nat) (hk : TOk a b r m) (w0 : World) : Calls Try.prog 9 #[.agg #[iN a, iN b, iN r, iN m]] w0 fun e w' => ∃ v, e = .returned (.tuple #[v, iN 0]) ∧ NewK a b r m w0 w' v := by
  refine enter_fr Try.func9 rfl Try.ntmps9 (by simp) fun ac (FF : Fr 15 ac [(0, aG #[iN a, iN b, iN r, iN m])]) => ?_
  have MM := MemS.start w0
  refine wp_seq (rg_c FF MM [] 4 [] [0] (fun bq => fun _ _ FF1 MM1 => then_n ?_))
  refine wp_seq (wp_region_list ?_)
  refine rp_c 8 FF1 MM1 [(1, l_ 0 (iN a)), (1, l_ 0 (iN b)), (1, l_ 0 (iN r)), (1, l_ 0 (iN m))] 4 [5, 7, 9, 11] [1] (⟨rfl, rfl, rfl, rfl, rfl, rfl, rfl, rfl, fun _ _ FF2 MM2 => ?_⟩)
  refine st_callE [3, 2, 12] FF2 (d := 12) (mk := fun v => .tuple #[v, iN 0]) en_knew rfl rfl (knew_yes a b r m hk _) rfl (by kernel_rfl) (by decide) fun ac4 wd4 lv3 FF4 hr5 => ?_
  obtain ⟨gk, rfl, hB_gk, hf_gk, hb_gk⟩ := hr5
  have MM6 := MM2.keep hB_gk
  have MM7 : MemS (fun k => k < w0.heap.size) w0 wd4 [(gk, oC #[iN a, iN b, iN r, iN m] 65), (bq, oC #[iN a, iN b, iN r, iN m] 25)] [] := MM2.addFresh MM6 hb_gk hf_gk
  refine rp_c 4 FF4 MM7 [] 4 [] [] (fun _ _ FF8 MM8 => ?_)
  refine wpl_nil (then_n ?_)
  refine wp_ret ?_
  repeat first | refine then_ret ?_ | refine inb_ret ?_
  exact (ret_tup2 FF8 1 0 Try.results9 rfl rfl ⟨_, rfl, gk, rfl, MM8.below, MM8.fresh 0 rfl, MM8.get 0 rfl⟩)
end Go.Proofs.Ythgfjeljfiadmaa
namespace Go.Proofs.Ythgfjeljfiadmaa
open Go.RowKit
theorem MemS.apartO {S : Nat → Prop} {w0 w : World} {K O : Blks} {R : List Row} {g : Nat} {ob : Obj} (M : MemS S w0 w (K ++ O) R) (i : Nat) (hi : K[i]? = some (g, ob)) : ∀ x ∈ O, x.1 ≠ g := fun x hx => by
  obtain ⟨j, hj⟩ := List.mem_iff_getElem?.1 hx
  have hl : i < K.length := by
    rcases Nat.lt_or_ge i K.length with h | h
    · exact h
    · rw [List.getElem?_eq_none h] at hi; cases hi
  exact M.apart (K.length + j) i x (g, ob) (by rw [List.getElem?_append_right (Nat.le_add_right _ _), Nat.add_sub_cancel_left]; exact hj) (by rw [List.getElem?_append_left hl]; exact hi) (by omega)
/-- What is drawn under all weights together. -/
def uN (a b r m k : Nat) (X : List Nat) : Nat × Nat × Nat := undN (toN a b r m (2 * r + 1)) (bsz (toN a b r m (2 * r + 1))) k X
/-- The number that is drawn. -/
def drN (a b r m k : Nat) (X : List Nat) : Nat := if (uN a b r m k X).2.1 = 0 then aN a b r m (uN a b r m k X).1 else 0
theorem tot_small {a b r m : Nat} (hk : TOk a b r m) : toN a b r m (2 * r + 1) < 1048576 := to_small hk (by have := hk.2.2.2.1; have := hk.2.2.2.2; omega)
theorem tot_b1 {a b r m : Nat} (hk : TOk a b r m) : 1 ≤ bsz (toN a b r m (2 * r + 1)) := bsz_pos (by have := to_pos hk; omega)
theorem tot_b2 {a b r m : Nat} (hk : TOk a b r m) : bsz (toN a b r m (2 * r + 1)) ≤ 20 := bsz_le (tot_small hk)
theorem tot_q {a b r m : Nat} (hk : TOk a b r m) : qsz (toN a b r m (2 * r + 1)) < 1000000 := qok (b100 (Nat.lt_trans (tot_small hk) (by decide)))
theorem un_q {a b r m k : Nat} {X : List Nat} (hk : TOk a b r m) : qsz (undN (toN a b r m (2 * r + 1)) (bsz (toN a b r m (2 * r + 1))) k X).1 < 1000000 := qok (Nat.lt_of_lt_of_le (und_lt (bsz_ok _).1 k X) (Nat.le_trans (Nat.pow_le_pow_right (by decide) (tot_b2 hk)) (by decide +kernel)))
set_option maxRecDepth 100000 in
theorem kdraw_O (gk g : Nat) (a b r m : Nat) (hk : TOk a b r m) (X : List Nat) (u : Nat) (hX : ∀ i, X.getD i 0 < 256) (hu : u < 4611686018427000000) (k : Nat) (hk1 : 1 ≤ k) (hk2 : k ≤ 16) (O : Blks) (hK : KO O gk a b r m) (w0 : World) (H : Has w0 ((g, TB X u) :: O)) (hD : Distinct ((g, TB X u) :: O)) :
    Calls Try.prog 19 #[pT gk, pT g, iN k] w0 fun e w' => e = .returned (.tuple #[iN (drN a b r m k X), iN ((uN a b r m k X).2.1)]) ∧ Turn g (TB (X.drop (uN a b r m k X).2.2) (u + (uN a b r m k X).2.2)) w0 w' := by
  have ⟨k1, k2, k3, k4, k5⟩ := hk
  refine enter_fr Try.func19 rfl Try.ntmps19 (by simp) fun ac (FF : Fr 30 ac [(0, pT gk), (1, pT g), (2, iN k)]) => ?_
  have MM : MemS (fun k => k < w0.heap.size ∧ ∀ x ∈ (g, oC #[sB X, iN u] 56) :: O, x.1 ≠ k) w0 w0 ((g, oC #[sB X, iN u] 56) :: O) [] := MemS.startN H hD
  refine wp_seq (rg_c FF MM [] 8 [] [] (fun _ _ FF1 MM1 => then_n ?_))
  refine wp_seq (wp_region_list ?_)
  refine rp_c 2 FF1 MM1 [] 15 [] [1] (fun _ _ FF2 MM2 => ?_)
  refine st_callE [13, 7, 6, 0, 2, 15] FF2 (d := 15) (mk := fun v => .agg #[nv (toN a b r m (2 * r + 1)) v]) en_ktotal rfl rfl (ktotal_any gk a b r m hk _ (hK.at (Has.tl MM2.hasL))) rfl (by kernel_rfl) (by decide) fun ac4 wd4 lv3 FF4 hr5 => ?_
  have hfr6 : ∀ g, (nv (toN a b r m (2 * r + 1)) lv3).ownBlock = some g → w0.heap.size ≤ g := fun g hg => Nat.le_trans MM2.size (hr5.2.2 g hg)
  obtain ⟨O7, MM80, hN9, hs10⟩ := MemS.addNats (K := [(g, oC #[sB X, iN u] 56)]) (O := O) MM2 hr5.1 hr5.2 (Nats.nil O)
  have MM8 : MemS (fun k => k < w0.heap.size ∧ ∀ x ∈ (g, oC #[sB X, iN u] 56) :: O, x.1 ≠ k) w0 wd4 ((g, oC #[sB X, iN u] 56) :: O7) [] := MM80
  have hK_11 := hK.mono hs10
  refine rp_c 1 FF4 MM8 [] 17 [] [2] (fun _ wd12 FF12 MM12 => ?_)
  refine st_callE [7, 6, 0, 17] FF12 (d := 17) (mk := fun v => .tuple #[.agg #[nv ((undN (toN a b r m (2 * r + 1)) (bsz (toN a b r m (2 * r + 1))) k X).1) v], iN ((undN (toN a b r m (2 * r + 1)) (bsz (toN a b r m (2 * r + 1))) k X).2.1)]) en_tunder rfl rfl (by have h0 := tunder_any g X u hX (by omega) (toN a b r m (2 * r + 1)) lv3 k (tot_b1 hk) (Nat.le_trans (tot_b2 hk) (by decide)) hk1 hk2 wd12 (MM12.get 0 rfl) ((hN9.get 0 rfl).at (Has.tl MM12.hasL)) (natO_ne (hN9.get 0 rfl) (MemS.apartO (K := [(g, oC #[sB X, iN u] 56)]) MM12 0 rfl)); exact h0) rfl (by kernel_rfl) (by decide) fun ac14 wd14 lv13 FF14 hr15 => ?_
  obtain ⟨ht9, hn9⟩ := hr15
  have MM16 : MemS (fun k => k < w0.heap.size ∧ ∀ x ∈ (g, oC #[sB X, iN u] 56) :: O, x.1 ≠ k) w0 wd14 ((g, oC #[sB (X.drop (undN (toN a b r m (2 * r + 1)) (bsz (toN a b r m (2 * r + 1))) k X).2.2), iN (u + (undN (toN a b r m (2 * r + 1)) (bsz (toN a b r m (2 * r + 1))) k X).2.2)] 56) :: O7) [] := MM12.turnAt ht9 0 rfl
  obtain ⟨O17, MM180, hN19, hs20⟩ := MemS.addNatsT (K := [(g, oC #[sB (X.drop (undN (toN a b r m (2 * r + 1)) (bsz (toN a b r m (2 * r + 1))) k X).2.2), iN (u + (undN (toN a b r m (2 * r + 1)) (bsz (toN a b r m (2 * r + 1))) k X).2.2)] 56)]) (O := O7) MM12 MM16 rfl hn9 hN9
  have MM18 : MemS (fun k => k < w0.heap.size ∧ ∀ x ∈ (g, oC #[sB X, iN u] 56) :: O, x.1 ≠ k) w0 wd14 ((g, oC #[sB (X.drop (undN (toN a b r m (2 * r + 1)) (bsz (toN a b r m (2 * r + 1))) k X).2.2), iN (u + (undN (toN a b r m (2 * r + 1)) (bsz (toN a b r m (2 * r + 1))) k X).2.2)] 56) :: O17) [] := MM180
  have hK_21 := hK_11.mono hs20
  have hz22 : ∀ x ∈ O, x ∈ O17 := fun x hx => hs20 x (hs10 x hx)
  refine rp_c 6 FF14 MM18 [(4, b_ 0)] 9 [9] [] (fun bw => ⟨rfl, rfl, rfl, (by kernel_rfl), rfl, fun _ _ FF23 MM23 => ?_⟩)
  refine wpl_nil (then_n ?_)
  refine wp_seq ?_
  refine wp_seq (rg_c FF23 MM23 [] 10 [21] [] (fun _ _ FF24 MM24 => then_n ?_))
  by_cases hs21 : ((undN (toN a b r m (2 * r + 1)) (bsz (toN a b r m (2 * r + 1))) k X).2.1) ≠ 0
  · refine wp_cond_true ((FF24.ev 0 rfl).trans (dec_t hs21)) ?_
    refine wp_seq (rg_c FF24 MM24 [] 9 [9] [] (fun _ _ FF25 MM25 => then_n ?_))
    refine wp_ret ?_
    repeat first | refine then_ret ?_ | refine inb_ret ?_
    exact (ret_tup2 FF25 1 0 Try.results19 rfl rfl (by rw [drN, uN, if_neg hs21]; exact ⟨rfl, MM25.turn (Has.tl H) 1 rfl (fun _ hx => List.mem_cons_of_mem _ (List.mem_cons_of_mem _ (hz22 _ hx)))⟩))
  · refine wp_cond_false ((FF24.ev 0 rfl).trans (dec_f hs21)) ?_
    refine wp_skip ?_
    refine then_n ?_
    refine wp_seq (rg_c FF24 MM24 [(1, b_ 0), (0, u_ 1 (.tuple #[iN (aN a b r m ((undN (toN a b r m (2 * r + 1)) (bsz (toN a b r m (2 * r + 1))) k X).1)), .bool (decide ((undN (toN a b r m (2 * r + 1)) (bsz (toN a b r m (2 * r + 1))) k X).1 < toN a b r m (2 * r + 1)))]))] 11 [] [] (⟨rfl, rfl, ⟨en_kat, fun w Hw => kat_any gk a b r m hk ((undN (toN a b r m (2 * r + 1)) (bsz (toN a b r m (2 * r + 1))) k X).1) lv13 (un_q hk) w (hK_21.at (Has.tl (Has.tl Hw))) ((hN19.get 0 rfl).at (Has.tl (Has.tl Hw)))⟩, fun _ _ FF26 MM26 => then_n ?_⟩))
    refine wp_seq (rg_c FF26 MM26 [] 9 [9] [] (fun _ _ FF27 MM27 => then_n ?_))
    refine wp_ret ?_
    repeat first | refine then_ret ?_ | refine inb_ret ?_
    exact (ret_tup2 FF27 1 0 Try.results19 rfl rfl (by have hE : (undN (toN a b r m (2 * r + 1)) (bsz (toN a b r m (2 * r + 1))) k X).2.1 = 0 := Decidable.of_not_not hs21; rw [drN, uN, if_pos hE]; exact ⟨by rw [hE], MM27.turn (Has.tl H) 1 rfl (fun _ hx => List.mem_cons_of_mem _ (List.mem_cons_of_mem _ (hz22 _ hx)))⟩))
theorem kdraw_any (gk g : Nat) (a b r m : Nat) (hk : TOk a b r m) (X : List Nat) (u : Nat) (hX : ∀ i, X.getD i 0 < 256) (hu : u < 4611686018427000000) (k : Nat) (hk1 : 1 ≤ k) (hk2 : k ≤ 16) (w0 : World) (hgk : w0.heap[gk]? = some (KB a b r m)) (hg : w0.heap[g]? = some (TB X u)) :
    Calls Try.prog 19 #[pT gk, pT g, iN k] w0 fun e w' => e = .returned (.tuple #[iN (drN a b r m k X), iN ((uN a b r m k X).2.1)]) ∧ Turn g (TB (X.drop (uN a b r m k X).2.2) (u + (uN a b r m k X).2.2)) w0 w' := by
  have hne : gk ≠ g := fun e => by subst e; rw [hg] at hgk; simp at hgk
  refine kdraw_O gk g a b r m hk X u hX hu k hk1 hk2 [(gk, KB a b r m)] (by simp [KO]) w0 (fun i x hx => ?_) ⟨fun y hy => ?_, fun y hy => (nomatch hy), trivial⟩
  · match i with
    | 0 => simp at hx; subst hx; exact hg
    | 1 => simp at hx; subst hx; exact hgk
    | i + 2 => simp at hx
  · simp at hy; subst hy; exact fun e => hne (by first | exact e | exact e.symm)
set_option maxRecDepth 100000 in
theorem kdraw_tloO (O : Blks) (hD : Distinct O) (gk : Nat) (g : Nat) (a b r m : Nat) (hk : TOk a b r m) (t : Int) (hz : t < 1) (hK : KO O gk a b r m) (w0 : World) (H : Has w0 O) :
    Calls Try.prog 19 #[pT gk, pT g, .int .i64 t] w0 fun e w' => e = .returned (.tuple #[iN 0, iN 1]) ∧ Below w0.heap.size w0 w' := by
  refine enter_fr Try.func19 rfl Try.ntmps19 (by simp) fun ac (FF : Fr 30 ac [(0, pT gk), (1, pT g), (2, .int .i64 (t : Int))]) => ?_
  have MM : MemS (fun k => k < w0.heap.size ∧ ∀ x ∈ O, x.1 ≠ k) w0 w0 O [] := MemS.startN H hD
  refine wp_seq (rg_c FF MM [] 8 [] [] (fun _ _ FF1 MM1 => then_n ?_))
  refine wp_seq (wp_region_list ?_)
  refine rp_c 2 FF1 MM1 [] 15 [] [1] (fun _ _ FF2 MM2 => ?_)
  refine st_callE [13, 7, 6, 0, 2, 15] FF2 (d := 15) (mk := fun v => .agg #[nv (toN a b r m (2 * r + 1)) v]) en_ktotal rfl rfl (ktotal_any gk a b r m hk _ (hK.at MM2.hasL)) rfl (by kernel_rfl) (by decide) fun ac4 wd4 lv3 FF4 hr5 => ?_
  have hfr6 : ∀ g, (nv (toN a b r m (2 * r + 1)) lv3).ownBlock = some g → w0.heap.size ≤ g := fun g hg => Nat.le_trans MM2.size (hr5.2.2 g hg)
  obtain ⟨O7, MM80, hN9, hs10⟩ := MemS.addNats (K := []) (O := O) MM2 hr5.1 hr5.2 (Nats.nil O)
  have MM8 : MemS (fun k => k < w0.heap.size ∧ ∀ x ∈ O, x.1 ≠ k) w0 wd4 O7 [] := MM80
  have hK_11 := hK.mono hs10
  refine rp_c 8 FF4 MM8 [(1, u_ 1 (.tuple #[aG #[.slice none 0 0], iN 1])), (4, b_ 0)] 9 [9] [2] (⟨⟨en_tunder, fun w Hw => tunder_tlo g (toN a b r m (2 * r + 1)) lv3 (tot_q hk) t (tot_b1 hk) (Nat.le_trans (tot_b2 hk) (by decide)) hz w ((hN9.get 0 rfl).at Hw)⟩, fun bw => ⟨rfl, rfl, rfl, (by kernel_rfl), rfl, fun _ _ FF12 MM12 => ?_⟩⟩)
  refine wpl_nil (then_n ?_)
  refine wp_seq ?_
  refine wp_seq (rg_c FF12 MM12 [(1, w_ 2)] 10 [21] [] (⟨by decide, fun _ _ FF13 MM13 => then_n ?_⟩))
  refine wp_cond_true (FF13.ev 0 rfl) ?_
  refine wp_seq (rg_c FF13 MM13 [] 9 [9] [] (fun _ _ FF14 MM14 => then_n ?_))
  refine wp_ret ?_
  repeat first | refine then_ret ?_ | refine inb_ret ?_
  exact (ret_tup2 FF14 1 0 Try.results19 rfl rfl ⟨rfl, MM14.belowN H (fun _ hx => List.mem_cons_of_mem _ (hs10 _ hx))⟩)
theorem kdraw_tlo (gk : Nat) (g : Nat) (a b r m : Nat) (hk : TOk a b r m) (t : Int) (hz : t < 1) (w : World) (hgk : w.heap[gk]? = some (KB a b r m)) : Calls Try.prog 19 #[pT gk, pT g, .int .i64 t] w fun e w' => e = .returned (.tuple #[iN 0, iN 1]) ∧ Below w.heap.size w w' := by
  obtain ⟨O, h1, h2, h3⟩ := kone_O hgk
  exact kdraw_tloO O h2 gk g a b r m hk t hz h3 w h1
set_option maxRecDepth 100000 in
theorem kdraw_thiO (O : Blks) (hD : Distinct O) (gk : Nat) (g : Nat) (a b r m : Nat) (hk : TOk a b r m) (t : Int) (hz : t > 16) (hK : KO O gk a b r m) (w0 : World) (H : Has w0 O) :
    Calls Try.prog 19 #[pT gk, pT g, .int .i64 t] w0 fun e w' => e = .returned (.tuple #[iN 0, iN 1]) ∧ Below w0.heap.size w0 w' := by
  refine enter_fr Try.func19 rfl Try.ntmps19 (by simp) fun ac (FF : Fr 30 ac [(0, pT gk), (1, pT g), (2, .int .i64 (t : Int))]) => ?_
  have MM : MemS (fun k => k < w0.heap.size ∧ ∀ x ∈ O, x.1 ≠ k) w0 w0 O [] := MemS.startN H hD
  refine wp_seq (rg_c FF MM [] 8 [] [] (fun _ _ FF1 MM1 => then_n ?_))
  refine wp_seq (wp_region_list ?_)
  refine rp_c 2 FF1 MM1 [] 15 [] [1] (fun _ _ FF2 MM2 => ?_)
  refine st_callE [13, 7, 6, 0, 2, 15] FF2 (d := 15) (mk := fun v => .agg #[nv (toN a b r m (2 * r + 1)) v]) en_ktotal rfl rfl (ktotal_any gk a b r m hk _ (hK.at MM2.hasL)) rfl (by kernel_rfl) (by decide) fun ac4 wd4 lv3 FF4 hr5 => ?_
  have hfr6 : ∀ g, (nv (toN a b r m (2 * r + 1)) lv3).ownBlock = some g → w0.heap.size ≤ g := fun g hg => Nat.le_trans MM2.size (hr5.2.2 g hg)
  obtain ⟨O7, MM80, hN9, hs10⟩ := MemS.addNats (K := []) (O := O) MM2 hr5.1 hr5.2 (Nats.nil O)
  have MM8 : MemS (fun k => k < w0.heap.size ∧ ∀ x ∈ O, x.1 ≠ k) w0 wd4 O7 [] := MM80
  have hK_11 := hK.mono hs10
  refine rp_c 8 FF4 MM8 [(1, u_ 1 (.tuple #[aG #[.slice none 0 0], iN 1])), (4, b_ 0)] 9 [9] [2] (⟨⟨en_tunder, fun w Hw => tunder_thi g (toN a b r m (2 * r + 1)) lv3 (tot_q hk) t (tot_b1 hk) (Nat.le_trans (tot_b2 hk) (by decide)) hz w ((hN9.get 0 rfl).at Hw)⟩, fun bw => ⟨rfl, rfl, rfl, (by kernel_rfl), rfl, fun _ _ FF12 MM12 => ?_⟩⟩)
  refine wpl_nil (then_n ?_)
  refine wp_seq ?_
  refine wp_seq (rg_c FF12 MM12 [(1, w_ 2)] 10 [21] [] (⟨by decide, fun _ _ FF13 MM13 => then_n ?_⟩))
  refine wp_cond_true (FF13.ev 0 rfl) ?_
  refine wp_seq (rg_c FF13 MM13 [] 9 [9] [] (fun _ _ FF14 MM14 => then_n ?_))
  refine wp_ret ?_
  repeat first | refine then_ret ?_ | refine inb_ret ?_
  exact (ret_tup2 FF14 1 0 Try.results19 rfl rfl ⟨rfl, MM14.belowN H (fun _ hx => List.mem_cons_of_mem _ (hs10 _ hx))⟩)
theorem kdraw_thi (gk : Nat) (g : Nat) (a b r m : Nat) (hk : TOk a b r m) (t : Int) (hz : t > 16) (w : World) (hgk : w.heap[gk]? = some (KB a b r m)) : Calls Try.prog 19 #[pT gk, pT g, .int .i64 t] w fun e w' => e = .returned (.tuple #[iN 0, iN 1]) ∧ Below w.heap.size w w' := by
  obtain ⟨O, h1, h2, h3⟩ := kone_O hgk
  exact kdraw_thiO O h2 gk g a b r m hk t hz h3 w h1
set_option maxRecDepth 100000 in
theorem kdraw_pnilO (O : Blks) (hD : Distinct O) (gk : Nat) (a b r m : Nat) (hk : TOk a b r m) (t : Int) (hK : KO O gk a b r m) (w0 : World) (H : Has w0 O) :
    Calls Try.prog 19 #[pT gk, .pointer none, .int .i64 t] w0 fun e w' => e = .returned (.tuple #[iN 0, iN 1]) ∧ Below w0.heap.size w0 w' := by
  refine enter_fr Try.func19 rfl Try.ntmps19 (by simp) fun ac (FF : Fr 30 ac [(0, pT gk), (1, .pointer none), (2, .int .i64 (t : Int))]) => ?_
  have MM : MemS (fun k => k < w0.heap.size ∧ ∀ x ∈ O, x.1 ≠ k) w0 w0 O [] := MemS.startN H hD
  refine wp_seq (rg_c FF MM [] 8 [] [] (fun _ _ FF1 MM1 => then_n ?_))
  refine wp_seq (wp_region_list ?_)
  refine rp_c 2 FF1 MM1 [] 15 [] [1] (fun _ _ FF2 MM2 => ?_)
  refine st_callE [13, 7, 6, 0, 2, 15] FF2 (d := 15) (mk := fun v => .agg #[nv (toN a b r m (2 * r + 1)) v]) en_ktotal rfl rfl (ktotal_any gk a b r m hk _ (hK.at MM2.hasL)) rfl (by kernel_rfl) (by decide) fun ac4 wd4 lv3 FF4 hr5 => ?_
  have hfr6 : ∀ g, (nv (toN a b r m (2 * r + 1)) lv3).ownBlock = some g → w0.heap.size ≤ g := fun g hg => Nat.le_trans MM2.size (hr5.2.2 g hg)
  obtain ⟨O7, MM80, hN9, hs10⟩ := MemS.addNats (K := []) (O := O) MM2 hr5.1 hr5.2 (Nats.nil O)
  have MM8 : MemS (fun k => k < w0.heap.size ∧ ∀ x ∈ O, x.1 ≠ k) w0 wd4 O7 [] := MM80
  have hK_11 := hK.mono hs10
  refine rp_c 8 FF4 MM8 [(1, u_ 1 (.tuple #[aG #[.slice none 0 0], iN 1])), (4, b_ 0)] 9 [9] [2] (⟨⟨en_tunder, fun w Hw => tunder_nil (toN a b r m (2 * r + 1)) lv3 (tot_q hk) t w ((hN9.get 0 rfl).at Hw)⟩, fun bw => ⟨rfl, rfl, rfl, (by kernel_rfl), rfl, fun _ _ FF12 MM12 => ?_⟩⟩)
  refine wpl_nil (then_n ?_)
  refine wp_seq ?_
  refine wp_seq (rg_c FF12 MM12 [(1, w_ 2)] 10 [21] [] (⟨by decide, fun _ _ FF13 MM13 => then_n ?_⟩))
  refine wp_cond_true (FF13.ev 0 rfl) ?_
  refine wp_seq (rg_c FF13 MM13 [] 9 [9] [] (fun _ _ FF14 MM14 => then_n ?_))
  refine wp_ret ?_
  repeat first | refine then_ret ?_ | refine inb_ret ?_
  exact (ret_tup2 FF14 1 0 Try.results19 rfl rfl ⟨rfl, MM14.belowN H (fun _ hx => List.mem_cons_of_mem _ (hs10 _ hx))⟩)
theorem kdraw_pnil (gk : Nat) (a b r m : Nat) (hk : TOk a b r m) (t : Int) (w : World) (hgk : w.heap[gk]? = some (KB a b r m)) : Calls Try.prog 19 #[pT gk, .pointer none, .int .i64 t] w fun e w' => e = .returned (.tuple #[iN 0, iN 1]) ∧ Below w.heap.size w w' := by
  obtain ⟨O, h1, h2, h3⟩ := kone_O hgk
  exact kdraw_pnilO O h2 gk a b r m hk t h3 w h1
end Go.Proofs.Ythgfjeljfiadmaa
namespace Go.Proofs.Ythgfjeljfiadmaa
open Go.RowKit
theorem tak_app (a b : Nat) (X : List Nat) : takN a X ++ takN b (X.drop a) = takN (a + b) X := by
  refine ext_getD (by rw [List.length_append, takN_len, takN_len, takN_len]) fun i hi => ?_
  rw [List.length_append, takN_len, takN_len] at hi
  rw [takN_get X hi]
  rcases Nat.lt_or_ge i a with h | h
  · rw [getD_app_l _ _ _ (by rw [takN_len]; exact h), takN_get X h]
  · rw [getD_app_r _ _ _ (by rw [takN_len]; exact h), takN_len, takN_get _ (by omega), dropD]
    congr 1
    omega
/-- The covers' requests, out of what is left of a tape: those that bear a name alone, then the pairs. -/
def reqC (o : Nat) (Y : List Nat) (k : Nat) : List Nat := if k < o then takN 52 (Y.drop (52 * k)) else takN 16 (Y.drop (52 * o + 88 * ((k - o) / 2))) ++ takN 36 (Y.drop (52 * o + 88 * ((k - o) / 2) + 16 + 36 * ((k - o) % 2)))
theorem reqC_one {o k : Nat} (Y : List Nat) (h : k < o) : takN 16 (Y.drop (52 * k)) ++ takN 36 (Y.drop (52 * k + 16)) = reqC o Y k := by
  rw [reqC, if_pos h, ← tak_app 16 36, List.drop_drop]
theorem reqC_a (o j : Nat) (Y : List Nat) : takN 16 (Y.drop (52 * o + 88 * j)) ++ takN 36 (Y.drop (52 * o + 88 * j + 16)) = reqC o Y (o + 2 * j) := by
  rw [reqC, if_neg (by omega), show (o + 2 * j - o) / 2 = j by omega, show (o + 2 * j - o) % 2 = 0 by omega]
theorem reqC_b (o j : Nat) (Y : List Nat) : takN 16 (Y.drop (52 * o + 88 * j)) ++ takN 36 (Y.drop (52 * o + 88 * j + 52)) = reqC o Y (o + 2 * j + 1) := by
  rw [reqC, if_neg (by omega), show (o + 2 * j + 1 - o) / 2 = j by omega, show (o + 2 * j + 1 - o) % 2 = 1 by omega]
theorem reqC_len (o : Nat) (Y : List Nat) (k : Nat) : (reqC o Y k).length = 52 := by
  rw [reqC]
  split
  · exact takN_len _ _
  · rw [List.length_append, takN_len, takN_len]
theorem reqC_lt (o : Nat) {Y : List Nat} (hY : ∀ i, Y.getD i 0 < 256) (k : Nat) : ∀ i, (reqC o Y k).getD i 0 < 256 := by
  rw [reqC]
  split
  · exact takN_lt (dropX_lt hY _) _
  · exact app_lt (takN_lt (dropX_lt hY _) _) (takN_lt (dropX_lt hY _) _)
theorem fv_two (n : Nat) (F : Nat → Value) : fv n F ++ [F n, F (n + 1)] = fv (n + 2) F := by rw [← fv_succ, ← fv_succ, List.append_assoc]; rfl
theorem two_one (A B : List Nat) : ∀ u ∈ [sB A, sB B], u.oneCell' = true := fun u hu => by
  simp only [List.mem_cons, List.not_mem_nil, or_false] at hu
  rcases hu with rfl | rfl <;> rfl
theorem dr_in {a b r m k : Nat} {X : List Nat} (_hk : TOk a b r m) (h : (uN a b r m k X).2.1 = 0) : m - r ≤ drN a b r m k X ∧ drN a b r m k X ≤ m - r + 2 * r := by
  rw [drN, if_pos h]
  rcases und_ways (toN a b r m (2 * r + 1)) (bsz (toN a b r m (2 * r + 1))) k X with h1 | ⟨h1, _, _⟩
  · rw [uN, h1] at h
    cases h
  · obtain ⟨i, hi, h2, h3⟩ := atw_find h1
    rw [uN, a_yes hi h2 h3]
    omega
theorem dr_no {a b r m k : Nat} {X : List Nat} (h : (uN a b r m k X).2.1 ≠ 0) : drN a b r m k X = 0 := if_neg h
theorem dr_8 {a b r m k : Nat} {X : List Nat} (hk : TOk a b r m) : drN a b r m k X ≤ 8 := by
  by_cases h : (uN a b r m k X).2.1 = 0
  · have := dr_in hk h; have := hk.2.2.2.2; have := hk.2.2.2.1; omega
  · rw [dr_no h]; omega
theorem un_err (a b r m k : Nat) (X : List Nat) : (uN a b r m k X).2.1 = 0 ∨ (uN a b r m k X).2.1 = 3 := by
  rcases und_ways (toN a b r m (2 * r + 1)) (bsz (toN a b r m (2 * r + 1))) k X with h1 | ⟨_, h1, _⟩
  · rw [uN, h1]; exact .inr rfl
  · exact .inl h1
theorem un_bd {a b r m k : Nat} {X : List Nat} (hk : TOk a b r m) (hk2 : k ≤ 16) : (uN a b r m k X).2.2 ≤ 48 := by
  have h := und_bd (toN a b r m (2 * r + 1)) (bsz (toN a b r m (2 * r + 1))) k X
  have h2 := tot_b2 hk
  have h3 : (bsz (toN a b r m (2 * r + 1)) + 7) / 8 ≤ 3 := by omega
  exact Nat.le_trans h (Nat.mul_le_mul h3 hk2)
/-- What is made of a tape: the error, the ones, the twos, how much was taken ahead of the requests. -/
def cvK (a b r m k : Nat) (X : List Nat) : Nat × Nat × Nat × Nat :=
  if (uN a b r m k X).2.1 ≠ 0 then ((uN a b r m k X).2.1, 0, 0, (uN a b r m k X).2.2)
  else if (uN a b r m k (X.drop (uN a b r m k X).2.2)).2.1 ≠ 0 then ((uN a b r m k (X.drop (uN a b r m k X).2.2)).2.1, 0, 0, (uN a b r m k X).2.2 + (uN a b r m k (X.drop (uN a b r m k X).2.2)).2.2)
  else (0, drN a b r m k X, drN a b r m k (X.drop (uN a b r m k X).2.2), (uN a b r m k X).2.2 + (uN a b r m k (X.drop (uN a b r m k X).2.2)).2.2)
def cvZ (a b r m : Nat) (z : Int) (X : List Nat) : Nat × Nat × Nat × Nat := if 1 ≤ z ∧ z ≤ 16 then cvK a b r m z.toNat X else (1, 0, 0, 0)
theorem cvZ_nat {a b r m k : Nat} (h1 : 1 ≤ k) (h2 : k ≤ 16) (X : List Nat) : cvZ a b r m (k : Nat) X = cvK a b r m k X := by rw [cvZ, if_pos (by omega), Int.toNat_natCast]
theorem cvZ_bad {a b r m : Nat} {z : Int} (h : z < 1 ∨ z > 16) (X : List Nat) : cvZ a b r m z X = (1, 0, 0, 0) := if_neg (by omega)
theorem cvK_one {a b r m k : Nat} {X : List Nat} (h : (uN a b r m k X).2.1 ≠ 0) : cvK a b r m k X = ((uN a b r m k X).2.1, 0, 0, (uN a b r m k X).2.2) := if_pos h
theorem cvK_two {a b r m k : Nat} {X Y : List Nat} (hY : X.drop (uN a b r m k X).2.2 = Y) (h : (uN a b r m k X).2.1 = 0) (h2 : (uN a b r m k Y).2.1 ≠ 0) : cvK a b r m k X = ((uN a b r m k Y).2.1, 0, 0, (uN a b r m k X).2.2 + (uN a b r m k Y).2.2) := by
  subst hY
  rw [cvK, if_neg (by simpa using h), if_pos h2]
theorem cvK_ok {a b r m k : Nat} {X Y : List Nat} (hY : X.drop (uN a b r m k X).2.2 = Y) (h : (uN a b r m k X).2.1 = 0) (h2 : (uN a b r m k Y).2.1 = 0) : cvK a b r m k X = (0, drN a b r m k X, drN a b r m k Y, (uN a b r m k X).2.2 + (uN a b r m k Y).2.2) := by
  subst hY
  rw [cvK, if_neg (by simpa using h), if_neg (by simpa using h2)]
theorem dropc0 {X Y : List Nat} {p : Nat} (h : X.drop p = Y) : Y = X.drop (p + (52 * 0 + 88 * 0)) := h.symm
theorem dropc1 {X Y : List Nat} {p : Nat} (h : X.drop p = Y) (q : Nat) : Y.drop q = X.drop (p + q + (52 * 0 + 88 * 0)) := by rw [← h, List.drop_drop]; rfl
theorem dropc2 {X Y : List Nat} {p : Nat} (h : X.drop p = Y) (q c : Nat) : (Y.drop q).drop c = X.drop (p + q + c) := by rw [← h, List.drop_drop, List.drop_drop, Nat.add_assoc]
theorem turn_to {g : Nat} {X X' : List Nat} {u u' : Nat} {w w' : World} (h : Turn g (TB X u) w w') (e1 : X = X') (e2 : u = u') : Turn g (TB X' u') w w' := by subst e1 e2; exact h
theorem rowNew_base {base base' n : Nat} {w : World} {p : Option Addr} {V : Nat → Value} (h : RowNew base' w p n V) (hb : base ≤ base') : RowNew base w p n V := by
  rcases h with h | ⟨b, cs, T, fr, e, h0, h1⟩
  · exact .inl h
  · exact .inr ⟨b, cs, T, fr, e, Nat.le_trans hb h0, h1⟩
theorem rowNew_keep {base n : Nat} {w w' : World} {p : Option Addr} {V : Nat → Value} (h : RowNew base w p n V) (h' : RowIn w' p n V) : RowNew base w' p n V := by
  rcases h with h | ⟨b, cs, T, fr, rfl, hb, h1, h2⟩
  · exact .inl h
  · rcases h' with h' | ⟨b', off, cs', T', fr', e, g1, g2⟩
    · exact .inl h'
    · cases e
      exact .inr ⟨b, cs', T', fr', rfl, hb, g1, fun j hj => by simpa using g2 j hj⟩
section
variable {P : Program} {w0 w : World} {L : Blks} {S : Nat → Prop} {R : List Row} {l : Slots}
/-- 'make([]T, 0, n)'. -/
theorem make0_ok {o : Oper} {t e : TypeId} {p q : Operand} {n bb : Nat} {k : IntKind} {z : Value} (ho : o.op = .makeSlice t p q) (hp : evO l p = some (.int k ((0 : Nat) : Int))) (hq : evO l q = some (.int k (n : Nat))) (hu : P.underlying t = some (.slice e))
    (hi : (P.info? e).map (fun i => (i.zero, i.size, i.bytes)) = some (some z, 1, bb)) (hz : z.cells = #[z]) (hn : bb * n ≤ 281474976710656) (h63 : n ≤ 281474976710656) : RunN P l L o (mkOf (.slice none 0 n)) (.cells (fc n fun _ => z) e) := fun ρ w A _ => by
  obtain ⟨i, hi, h2⟩ := Option.map_eq_some_iff.1 hi
  simp only [Prod.mk.injEq] at h2
  obtain ⟨s1, s2, s3⟩ := h2
  have h1 := A p _ hp
  have h3 := A q _ hq
  have hb : (i.bytes : Int) * (n : Int) ≤ 281474976710656 := by
    have h9 := Int.ofNat_le.2 hn
    rw [Int.natCast_mul] at h9
    rw [s3]
    exact h9
  have hr := run_make (P := P) w t e i z hu hi s1 k k ((0 : Nat) : Int) (n : Int) (by omega) (by omega) hb (by omega)
  have hm : madeCells z.cells ((n : Int).toNat * i.size) = fc n fun _ => z := by
    apply Array.ext'
    rw [s2, Nat.mul_one, Int.toNat_natCast, hz, toList_madeCells_one, fv_toList]
    unfold fv
    rw [List.map_const', List.length_range]
  rw [hm] at hr
  rw [show ((0 : Nat) : Int) = 0 from rfl] at hr h1
  simp [execOp, ho, h1, h3, hr, mkOf]
/-- A block that is the walk's own, as a row of which nothing is used yet. -/
theorem MemS.rowRoom {g cap k : Nat} {e : TypeId} {cs : Array Value} (M : MemS S w0 w ((g, .cells cs e) :: L) R) (hg : w0.heap.size ≤ g) (hm : cap ≤ maxLen) (hcs : cs.size = cap * k) : MemS S w0 w L ((.slice (some ⟨g, 0, none⟩) 0 cap, e, k, 0, []) :: R) := by
  refine ⟨M.os, M.tape, M.output, M.size, M.block, M.old, fun i x h => M.has (i + 1) x (by simpa using h), fun i j x y h h' hij => M.apart (i + 1) (j + 1) x y (by simpa using h) (by simpa using h') (by omega), fun i x h => M.base (i + 1) x (by simpa using h), fun r hr => ?_, fun r hr g' hg' x hx => ?_, fun i j r r' hi hj hij g' hg' => ?_⟩
  · rcases List.mem_cons.1 hr with rfl | hr
    · exact ⟨by simp, .inr ⟨g, cap, cs, rfl, hg, M.has 0 _ rfl, Nat.zero_le _, hm, hcs, by simp⟩⟩
    · exact M.rows r hr
  · rcases List.mem_cons.1 hr with rfl | hr
    · obtain rfl : g = g' := by simpa [Value.ownBlock] using hg'
      obtain ⟨i, hi⟩ := List.mem_iff_getElem?.1 hx
      exact M.apart (i + 1) 0 x (g, .cells cs e) (by simpa using hi) rfl (by omega)
    · exact M.rowsL r hr g' hg' x (List.mem_cons_of_mem _ hx)
  · cases i with
    | zero =>
      simp at hi
      subst hi
      obtain rfl : g = g' := by simpa [Value.ownBlock] using hg'
      cases j with
      | zero => omega
      | succ j => exact fun h => M.rowsL r' (List.mem_of_getElem? (by simpa using hj)) g h (g, .cells cs e) (by simp) rfl
    | succ i =>
      cases j with
      | zero =>
        simp at hj
        subst hj
        intro h
        have : g = g' := by simpa [Value.ownBlock] using h
        exact M.rowsL r (List.mem_of_getElem? (by simpa using hi)) g' hg' (g, .cells cs e) (by simp) this
      | succ j => exact M.rowsR i j r r' (by simpa using hi) (by simpa using hj) (by omega) g' hg'
end
end Go.Proofs.Ythgfjeljfiadmaa
namespace Go.Proofs.Ythgfjeljfiadmaa
open Go.RowKit
section
variable {P : Program} {ops : Array Oper} {rest : List Oper} {op o : Oper} {a : Act} {w0 w w' : World} {Q : Exit → Act → World → Prop} {n m : Nat} {l : Slots} {L O : Blks} {S : Nat → Prop} {R : List Row}
/-- These blocks hold what is told; no other one has turned. -/
structure TurnB (N : Blks) (w w' : World) : Prop where
  os : w'.os = w.os
  tape : w'.tape = w.tape
  output : w'.output = w.output
  size : w.heap.size ≤ w'.heap.size
  block : ∀ k, k < w.heap.size → (∀ x ∈ N, x.1 ≠ k) → w'.heap[k]? = w.heap[k]?
  now : ∀ x ∈ N, w'.heap[x.1]? = some x.2
theorem TurnB.of_below {N : Blks} (h : Below w.heap.size w w') (hN : Has w N) : TurnB N w w' := ⟨h.os, h.tape, h.output, h.size, fun k hk _ => h.block k hk, fun x hx => by
  have := Has.mem hN hx
  exact (h.block x.1 (lt_of_block this)).trans this⟩
theorem TurnB.below (h : TurnB [] w w') : Below w.heap.size w w' := ⟨h.os, h.tape, h.output, h.size, fun k hk => h.block k hk fun _ hx => (nomatch hx)⟩
/-- Blocks of the list, by their places. -/
def atL (L : Blks) : List Nat → Option Blks
  | [] => some []
  | i :: r => match L[i]?, atL L r with | some y, some N => some (y :: N) | _, _ => none
theorem atL_has : ∀ {is : List Nat} {K : Blks}, atL L is = some K → Has w L → Has w K
  | [], K, h, _ => by
    obtain rfl := Option.some.inj h
    exact fun i x hx => by simp at hx
  | i :: r, K, h, H => by
    unfold atL at h
    split at h
    · rename_i y N hy hN
      obtain rfl := Option.some.inj h
      intro j x hx
      cases j with
      | zero => simp at hx; subst hx; exact H i _ hy
      | succ j => exact atL_has hN H j x (by simpa using hx)
    · cases h
/-- What a row was while it lies among the blocks. -/
def Froz (base : Nat) (O' O : Blks) (v : Value) (e : TypeId) (k n : Nat) (X : List Value) : Prop :=
  (v = .slice none 0 0 ∧ n = 0 ∧ X = [] ∧ O' = O) ∨ ∃ (g cap : Nat) (cur : Array Value), v = .slice (some ⟨g, 0, none⟩) n cap ∧ base ≤ g ∧ n ≤ cap ∧ cap ≤ maxLen ∧ cur.size = cap * k ∧ cur.toList.take (n * k) = X ∧ X.length = n * k ∧ O' = (g, .cells cur e) :: O
theorem Froz.mono {base k n : Nat} {O' : Blks} {v : Value} {e : TypeId} {X : List Value} (h : Froz base O' O v e k n X) : ∀ x ∈ O, x ∈ O' := by
  rcases h with ⟨_, _, _, rfl⟩ | ⟨g, cap, cur, _, _, _, _, _, _, _, rfl⟩
  · exact fun _ h => h
  · exact fun _ h => List.mem_cons_of_mem _ h
end
section
variable {P : Program} {ops : Array Oper} {oi : Oper} {a : Act} {w0 w w' : World} {Q : Exit → Act → World → Prop} {n : Nat} {l : Slots} {L : Blks} {S : Nat → Prop} {R : List Row} {T : List Nat} {Z : World → Prop}
def wpLate (P : Program) (ops : Array Oper) (Q : Exit → Act → World → Prop) (Z : World → Prop) (T : List Nat) : Nat → Array Bool → Act → World → Prop
  | 0, listed, a, w => Region.ready .any ops listed = [] ∧ Q .normal a w
  | fuel + 1, listed, a, w => (Region.ready .any ops listed = [] → Q .normal a w) ∧
    ∀ i ∈ Region.ready .any ops listed, wpOp P ops Q i (fun a' w' => (i ∉ T → Z w') ∧ wpLate P ops Q Z T fuel (listed.setIfInBounds i true) a' w') a w
theorem wpAny_late : ∀ (fuel : Nat) (listed : Array Bool) (a : Act) (w : World), wpLate P ops Q Z T fuel listed a w → wpAny P .any ops Q fuel listed a w
  | 0, _, _, _, h => h
  | fuel + 1, _, _, _, h => ⟨h.1, fun i hi => wpOp_mono (fun a' w' h' => wpAny_late fuel _ a' w' h'.2) (h.2 i hi)⟩
/-- Each late operation waits for that one. -/
def waitsB (ops : Array Oper) (i : Nat) : List Nat → Bool
  | [] => true
  | j :: r => (match ops[j]? with | some o => o.after.any fun e => Region.binds .any e && Nat.beq e.on i | none => true) && waitsB ops i r
theorem waits_of {i : Nat} : ∀ {T : List Nat}, waitsB ops i T = true → ∀ j ∈ T, ∀ o, ops[j]? = some o → ∃ e ∈ o.after, Region.binds .any e = true ∧ e.on = i
  | [], _, _, hj, _, _ => (nomatch hj)
  | k :: r, h, j, hj, o, ho => by
    rw [waitsB, Bool.and_eq_true] at h
    rcases List.mem_cons.1 hj with rfl | hj
    · have h1 := h.1
      rw [ho] at h1
      obtain ⟨e, he, hb⟩ := Array.any_eq_true'.1 h1
      rw [Bool.and_eq_true] at hb
      exact ⟨e, he, hb.1, Nat.eq_of_beq_eq_true hb.2⟩
    · exact waits_of h.2 j hj o ho
theorem wpLate_first {i : Nat} {v : Value} (hi : ops[i]? = some oi) (hsel : ∀ (j : Nat) (o : Oper) cs b, ops[j]? = some o → o.op ≠ .select cs b) (hT : waitsB ops i T = true)
    (hQ : ∀ c a w, Q (.panic c) (a.put oi.dst v) w → Q (.panic c) a w) : ∀ (fuel : Nat) (listed : Array Bool) (a : Act) (w : World),
      (∀ j oj, ops[j]? = some oj → j ≠ i → listed.getD j true = false → (∀ e ∈ oj.after, Region.binds .any e = true → e.on ≠ i) → oi.apart ops oj = true) →
      i ∈ Region.ready .any ops listed → YieldsIf P ops Z oi v a → Z w → wpLate P ops Q Z T fuel (listed.setIfInBounds i true) (a.put oi.dst v) w → wpLate P ops Q Z T (fuel + 1) listed a w := by
  intro fuel
  induction fuel with
  | zero =>
    intro listed a w _ hr hy hZ H
    refine ⟨fun h => (by rw [h] at hr; cases hr), fun j hj => ?_⟩
    by_cases e : j = i
    · subst e
      exact hy.wpOp hi hZ ⟨fun _ => hZ, H⟩
    · have q := ready_mono hj e
      rw [H.1] at q
      cases q
  | succ fuel ih =>
    intro listed a w hfree hr hy hZ H
    refine ⟨fun h => (by rw [h] at hr; cases hr), fun j hj => ?_⟩
    by_cases e : j = i
    · subst e
      exact hy.wpOp hi hZ ⟨fun _ => hZ, H⟩
    · obtain ⟨hu, oj, hoj, hall⟩ := mem_ready.1 hj
      have hno : ∀ x ∈ oj.after, Region.binds .any x = true → x.on ≠ i := fun x hx hb q => by
        have h1 := hall x hx hb
        have h0 := (mem_ready.1 hr).1
        rw [q] at h1
        rcases Nat.lt_or_ge i listed.size with h' | h'
        · simp [h'] at h0 h1
          rw [h0] at h1
          cases h1
        · simp [Array.getElem?_eq_none h'] at h1
      have hjT : j ∉ T := fun q => by
        obtain ⟨x, hx, hb, q'⟩ := waits_of hT j q oj hoj
        exact hno x hx hb q'
      have h2 := wpOp_putIf hoj (hfree j oj hoj e hu hno) (fun cs b => hsel i oi cs b hi) (fun cs b => hsel j oj cs b hoj) hQ hy (H.2 j (ready_mono hj e))
      refine wpOp_mono (fun a' w' h3 => ⟨fun _ => h3.2.1 hjT, ih (listed.setIfInBounds j true) a' w' (fun k ok hk hki hun hn => hfree k ok hk hki ?_ hn) (ready_mono hr (Ne.symm e)) h3.1 (h3.2.1 hjT) ?_⟩) h2
      · by_cases q : j = k
        · subst q; exact hu
        · rw [getD_set_ne true q] at hun; exact hun
      · rw [Array.setIfInBounds_comm _ _ e]
        exact h3.2.2
/-- .. with what stands throughout alone. -/
theorem late_stand {id N : Nat} (K : Blks) (hm : P.follows .mixedOrders = true) (hN : ops.size = N) (M : MemS S w0 w L R) (H : ∀ w', MemS S w0 w' L R → wpLate P ops Q (fun w => Has w K) [] N (Array.replicate N false) a w') : (Code.region id ops true).wp P Q a w := by
  refine wp_region_any hm (wpAny_late (Z := fun w => Has w K) (T := []) _ _ _ _ ?_)
  rw [hN]
  exact H _ (M.keep (w' := { w with drawn := w.drawn + 1 }) ⟨rfl, rfl, rfl, Nat.le_refl _, fun _ _ => rfl⟩)
theorem late_take (F : Fr n a l) {i : Nat} {v : Value} {d fuel : Nat} {listed : Array Bool} (H : Has w L) (hi : ops[i]? = some oi) (hs : Region.noSelect ops = true) (hT : waitsB ops i T = true) (hf : Region.free .any ops listed i = true) (hr : (Region.ready .any ops listed).contains i = true)
    (hQ : ∀ c a (d : Nat) v w, Q (.panic c) (a.put (some d) v) w → Q (.panic c) a w) (hd : oi.dst = some d) (hn : d < n) (hg : wantOf ops.toList l oi = some true) (hrun : RunV P l L oi v)
    (K : ∀ a', Fr n a' (upd d v l) → wpLate P ops Q (fun w => Has w L) T fuel (listed.setIfInBounds i true) a' w) : wpLate P ops Q (fun w => Has w L) T (fuel + 1) listed a w := by
  refine wpLate_first hi (Region.noSelect_spec hs) hT (fun c a w h => by rw [hd] at h; exact hQ c a d v w h) fuel listed a w (Region.free_spec hi hf) (by simpa using hr) (.inl ⟨wanted_iff hg F.lk, fun w hw => hrun a.eval w F.agr hw⟩) H ?_
  rw [hd]
  exact K _ (F.put _ hn)
theorem late_one {i fuel : Nat} {listed : Array Bool} (hr : Region.ready .any ops listed = [i]) (hi : ops[i]? = some oi) (h : wpList P ops (onN (fun a' w' => (i ∉ T → Z w') ∧ wpLate P ops Q Z T fuel (listed.setIfInBounds i true) a' w') Q) [oi] a w) : wpLate P ops Q Z T (fuel + 1) listed a w :=
  ⟨fun h0 => (by rw [hr] at h0; cases h0), fun k hk => by
    rw [hr, List.mem_singleton] at hk
    subst hk
    exact op_row hi h⟩
theorem late_none {listed : Array Bool} {fuel : Nat} (hr : Region.ready .any ops listed = []) (h : Q .normal a w) : wpLate P ops Q Z T fuel listed a w := by
  cases fuel with
  | zero => exact ⟨hr, h⟩
  | succ k => exact ⟨fun _ => h, fun i hi => (by rw [hr] at hi; cases hi)⟩
theorem loadVi {o : Oper} {x : Operand} {t : TypeId} {g i k : Nat} {cs : Array Value} {e : TypeId} {fr : Nat × Nat} {v : Value} {d : TypeDesc} (ho : o.op = .load t x) (hx : evO l x = some (.pointer (some ⟨g, i, none⟩))) (ht : P.underlying t = some d) (hd : d.isRow = false) (hL : L[k]? = some (g, .cells cs e fr)) (hc : cs[i]? = some v) : RunV P l L o v :=
  loadV ho hx ht hd (List.mem_of_getElem? hL) hc
theorem loadRi {o : Oper} {x : Operand} {t : TypeId} {g k m : Nat} {cs : Array Value} {e : TypeId} {fr : Nat × Nat} {d : TypeDesc} (ho : o.op = .load t x) (hx : evO l x = some (.pointer (some ⟨g, 0, none⟩))) (ht : P.underlying t = some d) (hd : d.isRow = true) (hi : (P.info? t).map (·.size) = some m) (hL : L[k]? = some (g, .cells cs e fr)) (hm : cs.size = m) : RunV P l L o (.agg cs) := fun ρ w A H => by
  have e1 : ρ x = .pointer (some ⟨g, 0, none⟩) := A x _ hx
  have := run_loadAt_mid (P := P) w g 0 t cs.toList d (fun j v hv => by rw [cell_of (H k _ hL), Nat.zero_add]; simpa using hv) ht hd (by rw [hi, ← hm]; simp)
  simp only [execOp, ho, e1, Sem.run_bind, this, Result.andThen_ok, Sem.run_pure]
end
section
end
end Go.Proofs.Ythgfjeljfiadmaa
namespace Go.Proofs.Ythgfjeljfiadmaa
open Go.RowKit
theorem en_wreq : Enters Try.prog 48 := fun args w => by simp [go_sem]
theorem en_req : Enters Try.prog 35 := fun args w => by simp [go_sem]
theorem en_reqs : Enters Try.prog 22 := fun args w => by simp [go_sem]
theorem en_mk : Enters Try.prog 11 := fun args w => by simp [go_sem]
set_option maxRecDepth 100000 in
theorem wreq_any (D Z : List Nat) (hd : D.length = 16) (hD : ∀ i, D.getD i 0 < 256) (hz : Z.length = 36) (w0 : World) :
    Calls Try.prog 48 #[.agg (cn .u8 D), sB Z] w0 fun e w' => e = .returned (.tuple #[sB (D ++ Z), iN 0]) ∧ Below w0.heap.size w0 w' := by
  refine enter_fr Try.func48 rfl Try.ntmps48 (by simp) fun ac (FF : Fr 13 ac [(0, .agg (cn .u8 D)), (1, sB Z)]) => ?_
  have MM := MemS.start w0
  refine wp_seq (rg_c FF MM [(0, s_ 0 (.cells (cn .u8 D) 68)), (0, t_ (sB []))] 6 [] [0] (⟨(by kernel_rfl), fun bi => ⟨(by kernel_rfl), fun _ _ FF1 MM1 => then_n ?_⟩⟩))
  refine wp_seq ?_
  refine wp_seq (rg_c FF1 MM1 [(1, t_ (iN Z.length)), (0, w_ 3)] 6 [8] [] (⟨(vI (bs_size _)), (fun h => h hz), fun _ _ FF2 MM2 => then_n ?_⟩))
  refine wp_cond_false (FF2.ev 0 rfl) ?_
  refine wp_skip ?_
  refine then_n ?_
  refine wp_seq (rg_c FF2 MM2 [(1, l_ 0 (sB D)), (1, t_ (sB (D ++ Z)))] 6 [] [2] (⟨by decide, by decide, by decide, rfl, (str_all hd hD), (by simp only [bs_size]; omega), (vS2 (bs_app _ _)), fun _ _ FF3 MM3 => then_n ?_⟩))
  refine wp_ret ?_
  repeat first | refine then_ret ?_ | refine inb_ret ?_
  exact (ret_tup2 FF3 1 0 Try.results48 rfl rfl ⟨rfl, MM3.below⟩)
set_option maxRecDepth 100000 in
theorem req_any (g : Nat) (X : List Nat) (u : Nat) (hX : ∀ i, X.getD i 0 < 256) (hu : u < 4611686018427387904) (D : List Nat) (hd : D.length = 16) (hDl : ∀ i, D.getD i 0 < 256) (w0 : World) (hg : w0.heap[g]? = some (TB X u)) :
    Calls Try.prog 35 #[pT g, .agg (cn .u8 D)] w0 fun e w' => e = .returned (sB (D ++ takN 36 X)) ∧ Turn g (TB (X.drop 36) (u + 36)) w0 w' := by
  refine enter_fr Try.func35 rfl Try.ntmps35 (by simp) fun ac (FF : Fr 15 ac [(0, pT g), (1, .agg (cn .u8 D))]) => ?_
  have MM : MemS (fun k => k < w0.heap.size ∧ ∀ x ∈ (g, oC #[sB X, iN u] 56) :: ([] : Blks), x.1 ≠ k) w0 w0 ((g, oC #[sB X, iN u] 56) :: ([] : Blks)) [] := MemS.startN (one_has hg) ⟨fun y hy => (nomatch hy), trivial⟩
  refine wp_seq (rg_c FF MM [(0, s_ 0 (.cells (cn .u8 D) 68)), (0, t_ (sB []))] 5 [] [1] (⟨(by kernel_rfl), fun bi => ⟨(by kernel_rfl), fun _ _ FF1 MM1 => then_n ?_⟩⟩))
  refine wp_seq (late_stand (N := 9) [(bi, .cells (cn .u8 D) 68)] (by kernel_rfl) (by kernel_rfl) MM1 fun wq2 MM3 => ?_)
  refine late_take FF1 (i := 0) (oi := (opAt Try.f35 1 0)) (v := (.agg (cn .u8 D))) (d := 8) (atL_has (is := [0]) rfl MM3.hasL) (by kernel_rfl) (by kernel_rfl) (by kernel_rfl) (by kernel_rfl) (by kernel_rfl) (fun _ _ _ _ _ h => h) (by kernel_rfl) (by decide) (by kernel_rfl) (loadRi (x := (.tmp 3)) (k := 0) (m := 16) (by kernel_rfl) rfl Try.underlying68 rfl (by kernel_rfl) rfl ((cn_size _ _).trans hd)) fun _ FF4 => ?_
  refine late_take FF4 (i := 1) (oi := (opAt Try.f35 1 1)) (v := (pT g)) (d := 9) (atL_has (is := [0]) rfl MM3.hasL) (by kernel_rfl) (by kernel_rfl) (by kernel_rfl) (by kernel_rfl) (by kernel_rfl) (fun _ _ _ _ _ h => h) (by kernel_rfl) (by decide) (by kernel_rfl) (mvV (x := (.tmp 0)) (by kernel_rfl) rfl) fun _ FF5 => ?_
  refine late_one (i := 2) (oi := (opAt Try.f35 1 2)) (by kernel_rfl) (by kernel_rfl) ?_
  refine rp_c 1 FF5 MM3 [(0, c_ (sB (takN 36 X)) [(1, oC #[sB (X.drop 36), iN (u + 36)] 56)])] 9 [10] [3, 0] (⟨(callU_turn en_take (g := g) (ob := TB X u) rfl fun w hg => by have h0 := take_any g 36 X u hX (by omega) (by decide) w hg; exact h0), fun _ _ FF6 MM6 => ?_⟩)
  refine wpl_nil (onN_n ⟨fun _ => (atL_has (is := [0]) rfl MM6.hasL), ?_⟩)
  refine late_one (i := 3) (oi := (opAt Try.f35 1 3)) (by kernel_rfl) (by kernel_rfl) ?_
  refine rp_c 1 FF6 MM6 [(0, t_ (.tuple #[sB (D ++ (takN 36 X)), iN 0]))] 5 [11] [] (⟨(callP_of en_wreq (wreq_any D (takN 36 X) hd hDl (takN_len _ _)) _), fun _ _ FF7 MM7 => ?_⟩)
  refine wpl_nil (onN_n ⟨fun _ => (atL_has (is := [0]) rfl MM7.hasL), ?_⟩)
  refine late_take FF7 (i := 4) (oi := (opAt Try.f35 1 4)) (v := (.tuple #[sB (D ++ (takN 36 X)), iN 0])) (d := 7) (atL_has (is := [0]) rfl MM7.hasL) (by kernel_rfl) (by kernel_rfl) (by kernel_rfl) (by kernel_rfl) (by kernel_rfl) (fun _ _ _ _ _ h => h) (by kernel_rfl) (by decide) (by kernel_rfl) (mvV (x := (.tmp 11)) (by kernel_rfl) rfl) fun _ FF8 => ?_
  refine late_take FF8 (i := 5) (oi := (opAt Try.f35 1 5)) (v := (sB (D ++ (takN 36 X)))) (d := 12) (atL_has (is := [0]) rfl MM7.hasL) (by kernel_rfl) (by kernel_rfl) (by kernel_rfl) (by kernel_rfl) (by kernel_rfl) (fun _ _ _ _ _ h => h) (by kernel_rfl) (by decide) (by kernel_rfl) (extV (x := (.tmp 7)) (i := 0) (by kernel_rfl) rfl rfl) fun _ FF9 => ?_
  refine late_take FF9 (i := 6) (oi := (opAt Try.f35 1 6)) (v := (iN 0)) (d := 13) (atL_has (is := [0]) rfl MM7.hasL) (by kernel_rfl) (by kernel_rfl) (by kernel_rfl) (by kernel_rfl) (by kernel_rfl) (fun _ _ _ _ _ h => h) (by kernel_rfl) (by decide) (by kernel_rfl) (extV (x := (.tmp 7)) (i := 1) (by kernel_rfl) rfl rfl) fun _ FF10 => ?_
  refine late_one (i := 7) (oi := (opAt Try.f35 1 7)) (by kernel_rfl) (by kernel_rfl) ?_
  refine rp_c 1 FF10 MM7 [] 6 [13] [] (fun _ _ FF11 MM11 => ?_)
  refine wpl_nil (onN_n ⟨fun _ => (atL_has (is := [0]) rfl MM11.hasL), ?_⟩)
  refine late_one (i := 8) (oi := (opAt Try.f35 1 8)) (by kernel_rfl) (by kernel_rfl) ?_
  refine rp_c 1 FF11 MM11 [] 6 [] [] (fun _ _ FF12 MM12 => ?_)
  refine wpl_nil (onN_n ⟨fun _ => (atL_has (is := [0]) rfl MM12.hasL), ?_⟩)
  refine late_none (by kernel_rfl) (then_n ?_)
  refine wp_seq (rg_c FF12 MM12 [] 5 [] [] (fun _ _ FF13 MM13 => then_n ?_))
  refine wp_ret ?_
  repeat first | refine then_ret ?_ | refine inb_ret ?_
  exact (ret_fr FF13 0 Try.results35 rfl ⟨rfl, MM13.turn (O := []) (fun i x hx => by simp at hx) 1 rfl (fun x hx => (nomatch hx))⟩)
set_option maxRecDepth 100000 in
theorem reqs_any (g : Nat) (X : List Nat) (u : Nat) (hX : ∀ i, X.getD i 0 < 256) (hu : u < 4611686018427000000) (o t : Nat) (ho : o ≤ 64) (ht : t ≤ 64) (w0 : World) (hg : w0.heap[g]? = some (TB X u)) :
    Calls Try.prog 22 #[pT g, iN o, iN t] w0 fun e w' => ∃ v, e = .returned (.slice (pOf v) (o + 2 * t) (cOf v)) ∧ Turn g (TB (X.drop (52 * o + 88 * t)) (u + (52 * o + 88 * t))) w0 w' ∧ RowNew w0.heap.size w' (pOf v) (o + 2 * t) (fun k9 => sB (reqC o X k9)) := by
  refine enter_fr Try.func22 rfl Try.ntmps22 (by simp) fun ac (FF : Fr 41 ac [(0, pT g), (1, iN o), (2, iN t)]) => ?_
  have MM : MemS (fun k => k < w0.heap.size ∧ ∀ x ∈ (g, oC #[sB X, iN u] 56) :: ([] : Blks), x.1 ≠ k) w0 w0 ((g, oC #[sB X, iN u] 56) :: ([] : Blks)) [] := MemS.startN (one_has hg) ⟨fun y hy => (nomatch hy), trivial⟩
  have ho2 : o < 65 := by omega
  have ht2 : t < 65 := by omega
  refine wp_seq (rg_c FF MM [] 7 [] [] (fun _ _ FF1 MM1 => then_n ?_))
  refine wp_seq (rg_c FF1 MM1 [(3, t_ (iN (o + 2 * t))), (0, n_ (.slice none 0 (o + 2 * t)) (.cells (fc (o + 2 * t) (fun k9 => sB [])) 9))] 8 [] [] (⟨(by have := ht2; omega), (by have := ho2; have := ht2; omega), (vI (by omega)), (make0_ok (t := 36) (e := 9) (p := (.const (iN 0))) (q := (.tmp 12)) (bb := 16) (z := sB []) (by kernel_rfl) rfl rfl Try.underlying36 (by kernel_rfl) rfl (by omega) (by omega)), fun bl => fun _ _ FF2 MM2 => then_n ?_⟩))
  have MMr3 := MM2.rowRoom (cap := o + 2 * t) (k := 1) (MM2.newest (fun _ hx => hx)) (by simp only [maxLen]; omega) (by rw [fc_size, Nat.mul_one])
  refine wp_seq ?_
  refine wp_seq (rg_c FF2 MMr3 [] 16 [] [] (fun _ _ FF4 MM4 => then_n ?_))
  refine wp_for (fun a' w' => ∃ rv : Value, ∃ i : Nat, i ≤ o ∧ Fr 41 a' [(15, iN i), (14, iN o), (7, rv), (6, .slice none 0 0), (0, pT g), (1, iN o), (2, iN t)] ∧ MemS (fun k => k < w0.heap.size ∧ ∀ x ∈ (g, oC #[sB X, iN u] 56) :: ([] : Blks), x.1 ≠ k) w0 w' ((g, oC #[sB (X.drop (52 * i)), iN (u + 52 * i)] 56) :: ([] : Blks)) [(rv, 9, 1, i, (fv i (fun k9 => sB (reqC o X k9))))]) (fun a' _ => (o - cnt 15 a').toNat) ⟨.slice (some ⟨bl, 0, none⟩) 0 (o + 2 * t), 0, Nat.zero_le _, FF4.pick [0, 1, 2, 3, 4, 5, 6], MM4⟩ ?_
  rintro ac5 wd5 ⟨rv, i, hi, FF5, MM5⟩
  have hc := cnt_of (FF5.get 0 rfl)
  refine rg_c FF5 MM5 [] 17 [] [] (fun _ _ FF6 MM6 => ?_)
  by_cases hlt : i < o
  · skip
    refine then_n (.inl ⟨(FF6.ev 0 rfl).trans (dec_t hlt), ?_⟩)
    refine wp_region_list ?_
    refine rp_c 6 FF6 MM6 [(3, c_ (.agg (cn .u8 (takN 16 (X.drop (52 * i))))) [(0, oC #[sB (X.drop (52 * i + 16)), iN (u + 52 * i + 16)] 56)]), (0, c_ (sB (reqC o X i)) [(0, oC #[sB (X.drop (52 * (i + 1))), iN (u + 52 * (i + 1))] 56)]), (0, s_ 0 (oC #[sB (reqC o X i)] 9))] 18 [22] [16] (⟨(callU_turn en_tid (g := g) (ob := TB (X.drop (52 * i)) (u + 52 * i)) rfl fun w hg => by have h0 := tid_any g (X.drop (52 * i)) (u + 52 * i) (dropX_lt hX _) (by omega) w hg; rw [List.drop_drop] at h0; exact h0), (callU_turn en_req (g := g) (ob := TB (X.drop (52 * i + 16)) (u + 52 * i + 16)) rfl fun w hg => by have h0 := req_any g (X.drop (52 * i + 16)) (u + 52 * i + 16) (dropX_lt hX _) (by omega) (takN 16 (X.drop (52 * i))) (takN_len _ _) (takN_lt (dropX_lt hX _) 16) w hg; rw [List.drop_drop, reqC_one X hlt] at h0; exact h0), (by kernel_rfl), fun bq => fun _ _ FF7 MM7 => ?_⟩)
    refine st_app [15, 14, 7, 6, 0, 1, 2, 23] FF7 MM7 (d := 23) (s := 17) (x := 22) (Y := [sB (reqC o X i)]) (z := sB []) (bb := 16) rfl rfl rfl rfl (lies_lit (MM7.get 0 rfl)) (fun u hu => by rw [List.mem_singleton.1 hu]; rfl) (by decide) Try.underlying36 (by kernel_rfl) rfl (by decide) (by simp only [maxLen]; omega) (by omega) rfl rfl (by decide) fun ac9 wd9 rv8 FF9 MM9 => ?_
    have MMr10 : MemS _ _ _ _ [(rv8, 9, 1, (i + 1), (fv (i + 1) (fun k9 => sB (reqC o X k9))))] := MM9.eqR (by rw [show (fv (i + 1) (fun k9 => sB (reqC o X k9))) = ((fv i (fun k9 => sB (reqC o X k9))) ++ [sB (reqC o X i)]) from (fv_succ _ _).symm] <;> rfl)
    refine rp_c 1 FF9 MMr10 [] 16 [] [] (fun _ _ FF11 MM11 => ?_)
    refine wpl_nil ?_
    refine inb_n (then_n ?_)
    refine rg_c FF11 MM11 [] 16 [] [] (⟨by omega, fun _ _ FF12 MM12 => ?_⟩)
    have hd := cnt_of (FF12.get 0 rfl)
    refine then_n ⟨⟨rv8, i + 1, by omega, FF12.pick [0, 2, 1, 3, 4, 5, 6], (MM12.dropAt 0)⟩, ?_⟩
    rw [hc, hd]; omega
  · skip
    refine then_n (.inr ⟨(FF6.ev 0 rfl).trans (dec_f hlt), ?_⟩)
    obtain rfl : o = i := by omega
    refine then_n ?_
    refine wp_seq ?_
    refine wp_seq (rg_c FF6 MM6 [] 27 [] [16] (fun _ _ FF13 MM13 => then_n ?_))
    refine wp_for (fun a' w' => ∃ rv2 : Value, ∃ j : Nat, j ≤ t ∧ Fr 41 a' [(26, iN j), (25, iN t), (14, iN o), (7, rv2), (6, .slice none 0 0), (0, pT g), (1, iN o), (2, iN t)] ∧ MemS (fun k => k < w0.heap.size ∧ ∀ x ∈ (g, oC #[sB X, iN u] 56) :: ([] : Blks), x.1 ≠ k) w0 w' ((g, oC #[sB (X.drop (52 * o + 88 * j)), iN (u + (52 * o + 88 * j))] 56) :: ([] : Blks)) [(rv2, 9, 1, o + 2 * j, (fv (o + 2 * j) (fun k9 => sB (reqC o X k9))))]) (fun a' _ => (t - cnt 26 a').toNat) ⟨rv, 0, Nat.zero_le _, FF13.pick [0, 1, 3, 4, 5, 6, 7, 8], MM13⟩ ?_
    rintro ac14 wd14 ⟨rv2, j, hj, FF14, MM14⟩
    have hc := cnt_of (FF14.get 0 rfl)
    refine rg_c FF14 MM14 [] 28 [] [] (fun _ _ FF15 MM15 => ?_)
    by_cases hlt : j < t
    · skip
      refine then_n (.inl ⟨(FF15.ev 0 rfl).trans (dec_t hlt), ?_⟩)
      refine wp_seq (rg_c FF15 MM15 [(1, c_ (.agg (cn .u8 (takN 16 (X.drop (52 * o + 88 * j))))) [(0, oC #[sB (X.drop (52 * o + 88 * j + 16)), iN (u + (52 * o + 88 * j) + 16)] 56)]), (0, s_ 0 (.cells (cn .u8 (List.replicate 16 0)) 68)), (0, b_ 0)] 27 [] [] (⟨(callU_turn en_tid (g := g) (ob := TB (X.drop (52 * o + 88 * j)) (u + (52 * o + 88 * j))) rfl fun w hg => by have h0 := tid_any g (X.drop (52 * o + 88 * j)) (u + (52 * o + 88 * j)) (dropX_lt hX _) (by omega) w hg; rw [List.drop_drop] at h0; exact h0), (by kernel_rfl), fun bd => ⟨rfl, ((cn_size _ _).trans (List.length_replicate ..)), ((cn_size _ _).trans (takN_len _ _)), (cn_one _ _), rfl, fun _ _ FF16 MM16 => then_n ?_⟩⟩))
      refine late_stand (N := 10) [(bd, .cells (cn .u8 (takN 16 (X.drop (52 * o + 88 * j)))) 68)] (by kernel_rfl) (by kernel_rfl) MM16 fun wq17 MM18 => ?_
      refine late_take FF16 (i := 0) (oi := (opAt Try.f22 9 0)) (v := (rv2)) (d := 30) (atL_has (is := [0]) rfl MM18.hasL) (by kernel_rfl) (by kernel_rfl) (by kernel_rfl) (by kernel_rfl) (by kernel_rfl) (fun _ _ _ _ _ h => h) (by kernel_rfl) (by decide) (by kernel_rfl) (mvV (x := (.tmp 7)) (by kernel_rfl) rfl) fun _ FF19 => ?_
      refine late_take FF19 (i := 1) (oi := (opAt Try.f22 9 1)) (v := (pT g)) (d := 31) (atL_has (is := [0]) rfl MM18.hasL) (by kernel_rfl) (by kernel_rfl) (by kernel_rfl) (by kernel_rfl) (by kernel_rfl) (fun _ _ _ _ _ h => h) (by kernel_rfl) (by decide) (by kernel_rfl) (mvV (x := (.tmp 0)) (by kernel_rfl) rfl) fun _ FF20 => ?_
      refine late_take FF20 (i := 2) (oi := (opAt Try.f22 9 2)) (v := (.agg (cn .u8 (takN 16 (X.drop (52 * o + 88 * j)))))) (d := 32) (atL_has (is := [0]) rfl MM18.hasL) (by kernel_rfl) (by kernel_rfl) (by kernel_rfl) (by kernel_rfl) (by kernel_rfl) (fun _ _ _ _ _ h => h) (by kernel_rfl) (by decide) (by kernel_rfl) (loadRi (x := (.tmp 8)) (k := 0) (m := 16) (by kernel_rfl) rfl Try.underlying68 rfl (by kernel_rfl) rfl ((cn_size _ _).trans (takN_len _ _))) fun _ FF21 => ?_
      refine late_take FF21 (i := 4) (oi := (opAt Try.f22 9 4)) (v := (pT g)) (d := 34) (atL_has (is := [0]) rfl MM18.hasL) (by kernel_rfl) (by kernel_rfl) (by kernel_rfl) (by kernel_rfl) (by kernel_rfl) (fun _ _ _ _ _ h => h) (by kernel_rfl) (by decide) (by kernel_rfl) (mvV (x := (.tmp 0)) (by kernel_rfl) rfl) fun _ FF22 => ?_
      refine late_take FF22 (i := 5) (oi := (opAt Try.f22 9 5)) (v := (.agg (cn .u8 (takN 16 (X.drop (52 * o + 88 * j)))))) (d := 35) (atL_has (is := [0]) rfl MM18.hasL) (by kernel_rfl) (by kernel_rfl) (by kernel_rfl) (by kernel_rfl) (by kernel_rfl) (fun _ _ _ _ _ h => h) (by kernel_rfl) (by decide) (by kernel_rfl) (loadRi (x := (.tmp 8)) (k := 0) (m := 16) (by kernel_rfl) rfl Try.underlying68 rfl (by kernel_rfl) rfl ((cn_size _ _).trans (takN_len _ _))) fun _ FF23 => ?_
      refine late_one (i := 3) (oi := (opAt Try.f22 9 3)) (by kernel_rfl) (by kernel_rfl) ?_
      refine rp_c 1 FF23 MM18 [(0, c_ (sB (reqC o X (o + 2 * j))) [(1, oC #[sB (X.drop (52 * o + 88 * j + 52)), iN (u + (52 * o + 88 * j) + 52)] 56)])] 36 [] [32, 31] (⟨(callU_turn en_req (g := g) (ob := TB (X.drop (52 * o + 88 * j + 16)) (u + (52 * o + 88 * j) + 16)) rfl fun w hg => by have h0 := req_any g (X.drop (52 * o + 88 * j + 16)) (u + (52 * o + 88 * j) + 16) (dropX_lt hX _) (by omega) (takN 16 (X.drop (52 * o + 88 * j))) (takN_len _ _) (takN_lt (dropX_lt hX _) 16) w hg; rw [List.drop_drop, reqC_a] at h0; exact h0), fun _ _ FF24 MM24 => ?_⟩)
      refine wpl_nil (onN_n ⟨fun _ => (atL_has (is := [0]) rfl MM24.hasL), ?_⟩)
      refine late_one (i := 6) (oi := (opAt Try.f22 9 6)) (by kernel_rfl) (by kernel_rfl) ?_
      refine rp_c 1 FF24 MM24 [(0, c_ (sB (reqC o X (o + 2 * j + 1))) [(1, oC #[sB (X.drop (52 * o + 88 * (j + 1))), iN (u + (52 * o + 88 * (j + 1)))] 56)])] 34 [36] [] (⟨(callU_turn en_req (g := g) (ob := TB (X.drop (52 * o + 88 * j + 52)) (u + (52 * o + 88 * j) + 52)) rfl fun w hg => by have h0 := req_any g (X.drop (52 * o + 88 * j + 52)) (u + (52 * o + 88 * j) + 52) (dropX_lt hX _) (by omega) (takN 16 (X.drop (52 * o + 88 * j))) (takN_len _ _) (takN_lt (dropX_lt hX _) 16) w hg; rw [List.drop_drop, reqC_b] at h0; exact h0), fun _ _ FF25 MM25 => ?_⟩)
      refine wpl_nil (onN_n ⟨fun _ => (atL_has (is := [0]) rfl MM25.hasL), ?_⟩)
      refine late_one (i := 7) (oi := (opAt Try.f22 9 7)) (by kernel_rfl) (by kernel_rfl) ?_
      refine rp_c 1 FF25 MM25 [(0, s_ 0 (oC #[sB (reqC o X (o + 2 * j)), sB (reqC o X (o + 2 * j + 1))] 9))] 31 [37] [] (⟨(by kernel_rfl), fun bq => fun _ _ FF26 MM26 => ?_⟩)
      refine wpl_nil (onN_n ⟨fun _ => (atL_has (is := [1]) rfl MM26.hasL), ?_⟩)
      refine late_one (i := 8) (oi := (opAt Try.f22 9 8)) (by kernel_rfl) (by kernel_rfl) ?_
      refine st_app [8, 26, 25, 14, 7, 6, 0, 1, 2, 38] FF26 MM26 (d := 38) (s := 30) (x := 37) (Y := [sB (reqC o X (o + 2 * j)), sB (reqC o X (o + 2 * j + 1))]) (z := sB []) (bb := 16) rfl rfl rfl rfl (lies_lit (MM26.get 0 rfl)) (two_one _ _) (by decide) Try.underlying36 (by kernel_rfl) rfl (by decide) (by simp only [maxLen]; omega) (by omega) rfl rfl (by decide) fun ac28 wd28 rv27 FF28 MM28 => ?_
      have MMr29 : MemS _ _ _ _ [(rv27, 9, 1, (o + 2 * (j + 1)), (fv (o + 2 * (j + 1)) (fun k9 => sB (reqC o X k9))))] := MM28.eqR (by rw [show (fv (o + 2 * (j + 1)) (fun k9 => sB (reqC o X k9))) = ((fv (o + 2 * j) (fun k9 => sB (reqC o X k9))) ++ [sB (reqC o X (o + 2 * j)), sB (reqC o X (o + 2 * j + 1))]) from (fv_two _ _).symm] <;> rfl)
      refine wpl_nil (onN_n ⟨fun _ => (atL_has (is := [1]) rfl MMr29.hasL), ?_⟩)
      refine late_one (i := 9) (oi := (opAt Try.f22 9 9)) (by kernel_rfl) (by kernel_rfl) ?_
      refine rp_c 1 FF28 MMr29 [] 27 [] [] (fun _ _ FF30 MM30 => ?_)
      refine wpl_nil (onN_n ⟨fun _ => (atL_has (is := [1]) rfl MM30.hasL), ?_⟩)
      refine late_none (by kernel_rfl) ?_
      refine inb_n (then_n ?_)
      refine rg_c FF30 MM30 [] 27 [] [] (⟨by omega, fun _ _ FF31 MM31 => ?_⟩)
      have hd := cnt_of (FF31.get 0 rfl)
      refine then_n ⟨⟨rv27, j + 1, by omega, FF31.pick [0, 3, 4, 1, 5, 6, 7, 8], ((MM31.dropAt 1).dropAt 0)⟩, ?_⟩
      rw [hc, hd]; omega
    · skip
      refine then_n (.inr ⟨(FF15.ev 0 rfl).trans (dec_f hlt), ?_⟩)
      obtain rfl : t = j := by omega
      refine then_n ?_
      refine wp_seq (rg_c FF15 MM15 [] 27 [] [] (fun _ _ FF32 MM32 => then_n ?_))
      obtain ⟨rp, rc, rfl, _⟩ := MM32.rowLen
      refine wp_ret ?_
      repeat first | refine then_ret ?_ | refine inb_ret ?_
      exact (ret_fr FF32 0 Try.results22 rfl ⟨.slice rp (o + 2 * t) rc, rfl, MM32.turn (O := []) (fun i x hx => by simp at hx) 0 rfl (fun x hx => (nomatch hx)), MM32.rowNewF⟩)
end Go.Proofs.Ythgfjeljfiadmaa
namespace Go.Proofs.Ythgfjeljfiadmaa
open Go.RowKit
set_option maxRecDepth 100000 in
theorem mk_O (g gk : Nat) (a b r m : Nat) (hk : TOk a b r m) (X : List Nat) (u : Nat) (hX : ∀ i, X.getD i 0 < 256) (hu : u < 4611686018400000000) (k : Nat) (hk1 : 1 ≤ k) (hk2 : k ≤ 16) (O : Blks) (hK : KO O gk a b r m) (w0 : World) (H : Has w0 ((g, TB X u) :: O)) (hD : Distinct ((g, TB X u) :: O)) :
    Calls Try.prog 11 #[pT g, pT gk, iN k] w0 fun e w' => ∃ v, e = .returned (.tuple #[.agg #[iN ((cvK a b r m k X).2.1), iN ((cvK a b r m k X).2.2.1), .slice (pOf v) ((cvK a b r m k X).2.1 + 2 * (cvK a b r m k X).2.2.1) (cOf v)], iN ((cvK a b r m k X).1)]) ∧ Turn g (TB (X.drop ((cvK a b r m k X).2.2.2 + (52 * (cvK a b r m k X).2.1 + 88 * (cvK a b r m k X).2.2.1))) (u + ((cvK a b r m k X).2.2.2 + (52 * (cvK a b r m k X).2.1 + 88 * (cvK a b r m k X).2.2.1)))) w0 w' ∧ RowNew w0.heap.size w' (pOf v) ((cvK a b r m k X).2.1 + 2 * (cvK a b r m k X).2.2.1) (fun k9 => sB (reqC (cvK a b r m k X).2.1 (X.drop (cvK a b r m k X).2.2.2) k9)) := by
  have ⟨k1, k2, k3, k4, k5⟩ := hk
  refine enter_fr Try.func11 rfl Try.ntmps11 (by simp) fun ac (FF : Fr 40 ac [(0, pT g), (1, pT gk), (2, iN k)]) => ?_
  have MM : MemS (fun k => k < w0.heap.size ∧ ∀ x ∈ (g, oC #[sB X, iN u] 56) :: O, x.1 ≠ k) w0 w0 ((g, oC #[sB X, iN u] 56) :: O) [] := MemS.startN H hD
  obtain ⟨Y, hY0⟩ : ∃ Y, X.drop (uN a b r m k X).2.2 = Y := ⟨_, rfl⟩
  have hYb : ∀ i, Y.getD i 0 < 256 := by rw [← hY0]; exact dropX_lt hX _
  have hb1 : (uN a b r m k X).2.2 ≤ 48 := un_bd hk hk2
  have hb2 : (uN a b r m k Y).2.2 ≤ 48 := un_bd hk hk2
  have hd1 : (drN a b r m k X) ≤ 8 := dr_8 hk
  have hd2 : (drN a b r m k Y) ≤ 8 := dr_8 hk
  refine wp_seq (rg_c FF MM [] 8 [] [] (fun bc => fun _ _ FF1 MM1 => then_n ?_))
  refine wp_seq (wp_region_list ?_)
  refine rp_c 3 FF1 MM1 [] 15 [] [] (fun _ wd2 FF2 MM2 => ?_)
  refine st_callE [7, 6, 0, 1, 2, 15] FF2 (d := 15) (mk := fun _ => .tuple #[iN (drN a b r m k X), iN ((uN a b r m k X).2.1)]) (R' := fun _ w9 => Turn g (TB (Y) (u + (uN a b r m k X).2.2)) wd2 w9) en_kdraw rfl rfl (by have h0 := kdraw_any gk g a b r m hk X u hX (by omega) k hk1 hk2 wd2 (hK.at (Has.tl (Has.tl MM2.hasL))) (MM2.get 1 rfl); rw [hY0] at h0; exact h0.mono fun _ _ ⟨h1, h2⟩ => ⟨undef, h1, h2⟩) rfl (by kernel_rfl) (by decide) fun ac4 wd4 lv3 FF4 hr5 => ?_
  have MM6 : MemS (fun k => k < w0.heap.size ∧ ∀ x ∈ (g, oC #[sB X, iN u] 56) :: O, x.1 ≠ k) w0 wd4 ((bc, oC #[iN 0, iN 0, .slice none 0 0] 38) :: (g, oC #[sB Y, iN (u + (uN a b r m k X).2.2)] 56) :: O) [] := MM2.turnAt hr5 1 rfl
  refine rp_c 5 FF4 MM6 [] 9 [9] [] (fun _ _ FF7 MM7 => ?_)
  refine wpl_nil (then_n ?_)
  refine wp_seq ?_
  refine wp_seq (rg_c FF7 MM7 [] 10 [19] [] (fun _ _ FF8 MM8 => then_n ?_))
  by_cases hs19 : ((uN a b r m k X).2.1) ≠ 0
  · refine wp_cond_true ((FF8.ev 0 rfl).trans (dec_t hs19)) ?_
    refine wp_seq (rg_c FF8 MM8 [(0, t_ (aG #[iN 0, iN 0, .slice none 0 0])), (1, b_ 0)] 9 [9] [] (⟨(by kernel_rfl), rfl, rfl, rfl, (by kernel_rfl), rfl, fun _ _ FF9 MM9 => then_n ?_⟩))
    refine wp_ret ?_
    repeat first | refine then_ret ?_ | refine inb_ret ?_
    exact (ret_ct FF9 MM9 (k := 3) (i := 0) (j := 3) (m := 0) Try.results11 rfl rfl rfl Try.underlying38 rfl (by kernel_rfl) rfl (by rw [cvK_one hs19]; exact ⟨.slice none 0 0, rfl, turn_to (MM9.turn (Has.tl H) 1 rfl (fun _ hx => List.mem_cons_of_mem _ (List.mem_cons_of_mem _ (hx)))) (dropc0 hY0) (by simp only; omega), .inl rfl⟩))
  · refine wp_cond_false ((FF8.ev 0 rfl).trans (dec_f hs19)) ?_
    refine wp_skip ?_
    refine then_n ?_
    refine wp_seq (wp_region_list ?_)
    refine rp_c 3 FF8 MM8 [] 26 [] [19] (fun _ wd10 FF10 MM10 => ?_)
    refine st_callE [9, 8, 7, 6, 0, 1, 2, 26] FF10 (d := 26) (mk := fun _ => .tuple #[iN (drN a b r m k Y), iN ((uN a b r m k Y).2.1)]) (R' := fun _ w9 => Turn g (TB (Y.drop (uN a b r m k Y).2.2) ((u + (uN a b r m k X).2.2) + (uN a b r m k Y).2.2)) wd10 w9) en_kdraw rfl rfl (by have h0 := kdraw_any gk g a b r m hk Y (u + (uN a b r m k X).2.2) hYb (by omega) k hk1 hk2 wd10 (hK.at (Has.tl (Has.tl MM10.hasL))) (MM10.get 1 rfl); exact h0.mono fun _ _ ⟨h1, h2⟩ => ⟨undef, h1, h2⟩) rfl (by kernel_rfl) (by decide) fun ac12 wd12 lv11 FF12 hr13 => ?_
    have MM14 : MemS (fun k => k < w0.heap.size ∧ ∀ x ∈ (g, oC #[sB X, iN u] 56) :: O, x.1 ≠ k) w0 wd12 ((bc, oC #[iN 0, iN 0, .slice none 0 0] 38) :: (g, oC #[sB (Y.drop (uN a b r m k Y).2.2), iN ((u + (uN a b r m k X).2.2) + (uN a b r m k Y).2.2)] 56) :: O) [] := MM10.turnAt hr13 1 rfl
    refine rp_c 5 FF12 MM14 [] 11 [] [] (fun _ _ FF15 MM15 => ?_)
    refine wpl_nil (then_n ?_)
    refine wp_seq ?_
    refine wp_seq (rg_c FF15 MM15 [] 11 [30] [] (fun _ _ FF16 MM16 => then_n ?_))
    by_cases hs30 : ((uN a b r m k Y).2.1) ≠ 0
    · refine wp_cond_true ((FF16.ev 0 rfl).trans (dec_t hs30)) ?_
      refine wp_seq (rg_c FF16 MM16 [(0, t_ (aG #[iN 0, iN 0, .slice none 0 0])), (1, b_ 0)] 11 [] [] (⟨(by kernel_rfl), rfl, rfl, rfl, (by kernel_rfl), rfl, fun _ _ FF17 MM17 => then_n ?_⟩))
      refine wp_ret ?_
      repeat first | refine then_ret ?_ | refine inb_ret ?_
      exact (ret_ct FF17 MM17 (k := 3) (i := 0) (j := 4) (m := 0) Try.results11 rfl rfl rfl Try.underlying38 rfl (by kernel_rfl) rfl (by rw [cvK_two hY0 (Decidable.of_not_not hs19) hs30]; exact ⟨.slice none 0 0, rfl, turn_to (MM17.turn (Has.tl H) 1 rfl (fun _ hx => List.mem_cons_of_mem _ (List.mem_cons_of_mem _ (hx)))) (dropc1 hY0 _) (by simp only; omega), .inl rfl⟩))
    · refine wp_cond_false ((FF16.ev 0 rfl).trans (dec_f hs30)) ?_
      refine wp_skip ?_
      refine then_n ?_
      refine wp_seq (wp_region_list ?_)
      refine rp_c 5 FF16 MM16 [] 38 [] [30, 10, 8] (fun _ wd18 FF18 MM18 => ?_)
      refine st_callE [34, 33, 9, 7, 6, 0, 1, 2, 38] FF18 (d := 38) (mk := fun v => .slice (pOf v) (drN a b r m k X + 2 * (drN a b r m k Y)) (cOf v)) en_reqs rfl rfl (reqs_any g (Y.drop (uN a b r m k Y).2.2) ((u + (uN a b r m k X).2.2) + (uN a b r m k Y).2.2) (dropX_lt hYb _) (by omega) (drN a b r m k X) (drN a b r m k Y) (by omega) (by omega) wd18 (MM18.get 1 rfl)) rfl (by kernel_rfl) (by decide) fun ac21 wd21 lv20 FF21 hr22 => ?_
      have hRN := hr22.2
      have hRB := MM18.size
      have ht9 := hr22.1
      have MM23 : MemS (fun k => k < w0.heap.size ∧ ∀ x ∈ (g, oC #[sB X, iN u] 56) :: O, x.1 ≠ k) w0 wd21 ((bc, oC #[iN 0, iN 0, .slice none 0 0] 38) :: (g, oC #[sB ((Y.drop (uN a b r m k Y).2.2).drop (52 * (drN a b r m k X) + 88 * (drN a b r m k Y))), iN (((u + (uN a b r m k X).2.2) + (uN a b r m k Y).2.2) + (52 * (drN a b r m k X) + 88 * (drN a b r m k Y)))] 56) :: O) [] := MM18.turnAt ht9 1 rfl
      obtain ⟨O24, MM250, hR26, hs27⟩ := MemS.addRowT (K := [(bc, oC #[iN 0, iN 0, .slice none 0 0] 38), (g, oC #[sB ((Y.drop (uN a b r m k Y).2.2).drop (52 * (drN a b r m k X) + 88 * (drN a b r m k Y))), iN (((u + (uN a b r m k X).2.2) + (uN a b r m k Y).2.2) + (52 * (drN a b r m k X) + 88 * (drN a b r m k Y)))] 56)]) (O := O) MM18 MM23 rfl hr22.2
      have MM25 : MemS (fun k => k < w0.heap.size ∧ ∀ x ∈ (g, oC #[sB X, iN u] 56) :: O, x.1 ≠ k) w0 wd21 ((bc, oC #[iN 0, iN 0, .slice none 0 0] 38) :: (g, oC #[sB ((Y.drop (uN a b r m k Y).2.2).drop (52 * (drN a b r m k X) + 88 * (drN a b r m k Y))), iN (((u + (uN a b r m k X).2.2) + (uN a b r m k Y).2.2) + (52 * (drN a b r m k X) + 88 * (drN a b r m k Y)))] 56) :: O24) [] := MM250
      have hk28 := hK.mono hs27
      refine rp_c 3 FF21 MM25 [(0, t_ (aG #[iN (drN a b r m k X), iN (drN a b r m k Y), .slice (pOf lv20) (drN a b r m k X + 2 * (drN a b r m k Y)) (cOf lv20)])), (0, b_ 0)] 8 [9] [] (⟨(by kernel_rfl), rfl, rfl, rfl, (by kernel_rfl), rfl, fun _ _ FF29 MM29 => ?_⟩)
      refine wpl_nil (then_n ?_)
      refine wp_ret ?_
      repeat first | refine then_ret ?_ | refine inb_ret ?_
      exact (ret_ct FF29 MM29 (k := 3) (i := 0) (j := 2) (m := 0) Try.results11 rfl rfl rfl Try.underlying38 rfl (by kernel_rfl) rfl (by rw [cvK_ok hY0 (Decidable.of_not_not hs19) (Decidable.of_not_not hs30)]; exact ⟨lv20, rfl, turn_to (MM29.turn (Has.tl H) 1 rfl (fun _ hx => List.mem_cons_of_mem _ (List.mem_cons_of_mem _ (hs27 _ hx)))) (dropc2 hY0 _ _) (by simp only; omega), by rw [← List.drop_drop, hY0]; exact rowNew_keep (rowNew_base hRN hRB) (hR26.at (Has.tl (Has.tl MM29.hasL)))⟩))
end Go.Proofs.Ythgfjeljfiadmaa
namespace Go.Proofs.Ythgfjeljfiadmaa
open Go.RowKit
set_option maxRecDepth 100000 in
theorem mk_tloO (O : Blks) (hD : Distinct O) (gk : Nat) (g : Nat) (a b r m : Nat) (hk : TOk a b r m) (t : Int) (hz : t < 1) (hK : KO O gk a b r m) (w0 : World) (H : Has w0 O) :
    Calls Try.prog 11 #[pT g, pT gk, .int .i64 t] w0 fun e w' => e = .returned (.tuple #[.agg #[iN 0, iN 0, .slice none 0 0], iN 1]) ∧ Below w0.heap.size w0 w' := by
  refine enter_fr Try.func11 rfl Try.ntmps11 (by simp) fun ac (FF : Fr 40 ac [(0, pT g), (1, pT gk), (2, .int .i64 (t : Int))]) => ?_
  have MM : MemS (fun k => k < w0.heap.size ∧ ∀ x ∈ O, x.1 ≠ k) w0 w0 O [] := MemS.startN H hD
  refine wp_seq (rg_c FF MM [] 8 [] [] (fun bc => fun _ _ FF1 MM1 => then_n ?_))
  refine wp_seq (rg_c FF1 MM1 [(3, u_ 1 (.tuple #[iN 0, iN 1]))] 9 [9] [] (⟨⟨en_kdraw, fun w Hw => kdraw_tlo gk g a b r m hk t hz w (hK.at (Has.tl Hw))⟩, fun _ _ FF2 MM2 => then_n ?_⟩))
  refine wp_seq ?_
  refine wp_seq (rg_c FF2 MM2 [(1, w_ 2)] 10 [19] [] (⟨by decide, fun _ _ FF3 MM3 => then_n ?_⟩))
  refine wp_cond_true (FF3.ev 0 rfl) ?_
  refine wp_seq (rg_c FF3 MM3 [(0, t_ (aG #[iN 0, iN 0, .slice none 0 0])), (1, b_ 0)] 9 [9] [] (⟨(by kernel_rfl), rfl, rfl, rfl, (by kernel_rfl), rfl, fun _ _ FF4 MM4 => then_n ?_⟩))
  refine wp_ret ?_
  repeat first | refine then_ret ?_ | refine inb_ret ?_
  exact (ret_ct FF4 MM4 (k := 3) (i := 0) (j := 3) (m := 0) Try.results11 rfl rfl rfl Try.underlying38 rfl (by kernel_rfl) rfl ⟨rfl, MM4.belowN H (fun _ hx => List.mem_cons_of_mem _ (hx))⟩)
theorem mk_tlo (gk : Nat) (g : Nat) (a b r m : Nat) (hk : TOk a b r m) (t : Int) (hz : t < 1) (w : World) (hgk : w.heap[gk]? = some (KB a b r m)) : Calls Try.prog 11 #[pT g, pT gk, .int .i64 t] w fun e w' => e = .returned (.tuple #[.agg #[iN 0, iN 0, .slice none 0 0], iN 1]) ∧ Below w.heap.size w w' := by
  obtain ⟨O, h1, h2, h3⟩ := kone_O hgk
  exact mk_tloO O h2 gk g a b r m hk t hz h3 w h1
set_option maxRecDepth 100000 in
theorem mk_thiO (O : Blks) (hD : Distinct O) (gk : Nat) (g : Nat) (a b r m : Nat) (hk : TOk a b r m) (t : Int) (hz : t > 16) (hK : KO O gk a b r m) (w0 : World) (H : Has w0 O) :
    Calls Try.prog 11 #[pT g, pT gk, .int .i64 t] w0 fun e w' => e = .returned (.tuple #[.agg #[iN 0, iN 0, .slice none 0 0], iN 1]) ∧ Below w0.heap.size w0 w' := by
  refine enter_fr Try.func11 rfl Try.ntmps11 (by simp) fun ac (FF : Fr 40 ac [(0, pT g), (1, pT gk), (2, .int .i64 (t : Int))]) => ?_
  have MM : MemS (fun k => k < w0.heap.size ∧ ∀ x ∈ O, x.1 ≠ k) w0 w0 O [] := MemS.startN H hD
  refine wp_seq (rg_c FF MM [] 8 [] [] (fun bc => fun _ _ FF1 MM1 => then_n ?_))
  refine wp_seq (rg_c FF1 MM1 [(3, u_ 1 (.tuple #[iN 0, iN 1]))] 9 [9] [] (⟨⟨en_kdraw, fun w Hw => kdraw_thi gk g a b r m hk t hz w (hK.at (Has.tl Hw))⟩, fun _ _ FF2 MM2 => then_n ?_⟩))
  refine wp_seq ?_
  refine wp_seq (rg_c FF2 MM2 [(1, w_ 2)] 10 [19] [] (⟨by decide, fun _ _ FF3 MM3 => then_n ?_⟩))
  refine wp_cond_true (FF3.ev 0 rfl) ?_
  refine wp_seq (rg_c FF3 MM3 [(0, t_ (aG #[iN 0, iN 0, .slice none 0 0])), (1, b_ 0)] 9 [9] [] (⟨(by kernel_rfl), rfl, rfl, rfl, (by kernel_rfl), rfl, fun _ _ FF4 MM4 => then_n ?_⟩))
  refine wp_ret ?_
  repeat first | refine then_ret ?_ | refine inb_ret ?_
  exact (ret_ct FF4 MM4 (k := 3) (i := 0) (j := 3) (m := 0) Try.results11 rfl rfl rfl Try.underlying38 rfl (by kernel_rfl) rfl ⟨rfl, MM4.belowN H (fun _ hx => List.mem_cons_of_mem _ (hx))⟩)
theorem mk_thi (gk : Nat) (g : Nat) (a b r m : Nat) (hk : TOk a b r m) (t : Int) (hz : t > 16) (w : World) (hgk : w.heap[gk]? = some (KB a b r m)) : Calls Try.prog 11 #[pT g, pT gk, .int .i64 t] w fun e w' => e = .returned (.tuple #[.agg #[iN 0, iN 0, .slice none 0 0], iN 1]) ∧ Below w.heap.size w w' := by
  obtain ⟨O, h1, h2, h3⟩ := kone_O hgk
  exact mk_thiO O h2 gk g a b r m hk t hz h3 w h1
set_option maxRecDepth 100000 in
theorem mk_pnilO (O : Blks) (hD : Distinct O) (gk : Nat) (a b r m : Nat) (hk : TOk a b r m) (t : Int) (hK : KO O gk a b r m) (w0 : World) (H : Has w0 O) :
    Calls Try.prog 11 #[.pointer none, pT gk, .int .i64 t] w0 fun e w' => e = .returned (.tuple #[.agg #[iN 0, iN 0, .slice none 0 0], iN 1]) ∧ Below w0.heap.size w0 w' := by
  refine enter_fr Try.func11 rfl Try.ntmps11 (by simp) fun ac (FF : Fr 40 ac [(0, .pointer none), (1, pT gk), (2, .int .i64 (t : Int))]) => ?_
  have MM : MemS (fun k => k < w0.heap.size ∧ ∀ x ∈ O, x.1 ≠ k) w0 w0 O [] := MemS.startN H hD
  refine wp_seq (rg_c FF MM [] 8 [] [] (fun bc => fun _ _ FF1 MM1 => then_n ?_))
  refine wp_seq (rg_c FF1 MM1 [(3, u_ 1 (.tuple #[iN 0, iN 1]))] 9 [9] [] (⟨⟨en_kdraw, fun w Hw => kdraw_pnil gk a b r m hk t w (hK.at (Has.tl Hw))⟩, fun _ _ FF2 MM2 => then_n ?_⟩))
  refine wp_seq ?_
  refine wp_seq (rg_c FF2 MM2 [(1, w_ 2)] 10 [19] [] (⟨by decide, fun _ _ FF3 MM3 => then_n ?_⟩))
  refine wp_cond_true (FF3.ev 0 rfl) ?_
  refine wp_seq (rg_c FF3 MM3 [(0, t_ (aG #[iN 0, iN 0, .slice none 0 0])), (1, b_ 0)] 9 [9] [] (⟨(by kernel_rfl), rfl, rfl, rfl, (by kernel_rfl), rfl, fun _ _ FF4 MM4 => then_n ?_⟩))
  refine wp_ret ?_
  repeat first | refine then_ret ?_ | refine inb_ret ?_
  exact (ret_ct FF4 MM4 (k := 3) (i := 0) (j := 3) (m := 0) Try.results11 rfl rfl rfl Try.underlying38 rfl (by kernel_rfl) rfl ⟨rfl, MM4.belowN H (fun _ hx => List.mem_cons_of_mem _ (hx))⟩)
theorem mk_pnil (gk : Nat) (a b r m : Nat) (hk : TOk a b r m) (t : Int) (w : World) (hgk : w.heap[gk]? = some (KB a b r m)) : Calls Try.prog 11 #[.pointer none, pT gk, .int .i64 t] w fun e w' => e = .returned (.tuple #[.agg #[iN 0, iN 0, .slice none 0 0], iN 1]) ∧ Below w.heap.size w w' := by
  obtain ⟨O, h1, h2, h3⟩ := kone_O hgk
  exact mk_pnilO O h2 gk a b r m hk t h3 w h1
theorem mk_any (g gk : Nat) (a b r m : Nat) (hk : TOk a b r m) (X : List Nat) (u : Nat) (hX : ∀ i, X.getD i 0 < 256) (hu : u < 4611686018400000000) (z : Int) (w0 : World) (hgk : w0.heap[gk]? = some (KB a b r m)) (hg : w0.heap[g]? = some (TB X u)) :
    Calls Try.prog 11 #[pT g, pT gk, .int .i64 z] w0 fun e w' => ∃ v, e = .returned (.tuple #[.agg #[iN ((cvZ a b r m z X).2.1), iN ((cvZ a b r m z X).2.2.1), .slice (pOf v) ((cvZ a b r m z X).2.1 + 2 * (cvZ a b r m z X).2.2.1) (cOf v)], iN ((cvZ a b r m z X).1)]) ∧ Turn g (TB (X.drop ((cvZ a b r m z X).2.2.2 + (52 * (cvZ a b r m z X).2.1 + 88 * (cvZ a b r m z X).2.2.1))) (u + ((cvZ a b r m z X).2.2.2 + (52 * (cvZ a b r m z X).2.1 + 88 * (cvZ a b r m z X).2.2.1)))) w0 w' ∧ RowNew w0.heap.size w' (pOf v) ((cvZ a b r m z X).2.1 + 2 * (cvZ a b r m z X).2.2.1) (fun k9 => sB (reqC (cvZ a b r m z X).2.1 (X.drop (cvZ a b r m z X).2.2.2) k9)) := by
  by_cases hz : 1 ≤ z ∧ z ≤ 16
  · obtain ⟨k, rfl⟩ := Int.eq_ofNat_of_zero_le (a := z) (by omega)
    rw [cvZ_nat (by omega) (by omega)]
    have hne : gk ≠ g := fun e => by subst e; rw [hg] at hgk; simp at hgk
    refine mk_O g gk a b r m hk X u hX hu k (by omega) (by omega) [(gk, KB a b r m)] (by simp [KO]) w0 (fun i x hx => ?_) ⟨fun y hy => ?_, fun y hy => (nomatch hy), trivial⟩
    · match i with
      | 0 => simp at hx; subst hx; exact hg
      | 1 => simp at hx; subst hx; exact hgk
      | i + 2 => simp at hx
    · simp at hy; subst hy; exact fun e => hne (by first | exact e | exact e.symm)
  · rw [cvZ_bad (by omega)]
    have h : Calls Try.prog 11 #[pT g, pT gk, .int .i64 z] w0 fun e w' => e = .returned (.tuple #[.agg #[iN 0, iN 0, .slice none 0 0], iN 1]) ∧ Below w0.heap.size w0 w' := by
      by_cases h1 : z < 1
      · exact mk_tlo gk g a b r m hk z h1 w0 hgk
      · exact mk_thi gk g a b r m hk z (by omega) w0 hgk
    exact h.mono fun e w' ⟨h1, h2⟩ => ⟨.slice none 0 0, h1, Turn.of_below hg h2, .inl rfl⟩
end Go.Proofs.Ythgfjeljfiadmaa
namespace Go.Proofs.Ythgfjeljfiadmaa
open Go.RowKit
theorem en_lw_wakes : Enters Try.prog 7 := fun args w => by simp [go_sem]
theorem en_lFew : Enters Try.prog 8 := fun args w => by simp [go_sem]
set_option maxRecDepth 100000 in
theorem few_any (X : List Nat) (hl : X.length = 4) (hX : ∀ i, X.getD i 0 < 256) (a b r m : Nat) (hb : 1 + X.getD 0 0 % 15 = b) (hr : X.getD 1 0 % 5 = r) (ha : b + 1 + X.getD 2 0 % (16 - b) = a) (hm : r + X.getD 3 0 % (9 - 2 * r) = m) (w0 : World) :
    Calls Try.prog 8 #[.agg (cn .u8 X)] w0 fun e w' => e = .returned (.agg #[iN a, iN b, iN r, iN m]) ∧ Below w0.heap.size w0 w' := by
  refine enter_fr Try.func8 rfl Try.ntmps8 (by simp) fun ac (FF : Fr 35 ac [(0, .agg (cn .u8 X))]) => ?_
  have MM := MemS.start w0
  have hX2 := hX 2
  have hX3 := hX 3
  have ha2 := Nat.mod_lt (X.getD 2 0) (show 0 < 16 - b by omega)
  have hm2 := Nat.mod_lt (X.getD 3 0) (show 0 < 9 - 2 * r by omega)
  refine wp_seq (rg_c FF MM [(0, s_ 0 (.cells (cn .u8 X) 22))] 3 [] [0] (⟨(by kernel_rfl), fun bn => fun bq => fun _ _ FF1 MM1 => then_n ?_⟩))
  refine wp_seq (rg_c FF1 MM1 [(0, w_ 1), (0, l_ 1 (iB (X.getD 0 0))), (0, w_ 1), (1, t_ (iN b))] 4 [] [] (⟨by decide, rfl, (cn_get _ _ _ (by rw [hl]; decide)), (by have := hX 0; omega), by decide, (by have := hX 0; omega), (vI hb), fun _ _ FF2 MM2 => then_n ?_⟩))
  refine wp_seq (rg_c FF2 MM2 [(0, w_ 1), (0, l_ 1 (iB (X.getD 1 0))), (0, w_ 1), (0, t_ (iN r))] 5 [] [] (⟨by decide, rfl, (cn_get _ _ _ (by rw [hl]; decide)), (by have := hX 1; omega), by decide, (vI hr), fun _ _ FF3 MM3 => then_n ?_⟩))
  refine wp_seq (rg_dc 21 FF3 MM3 [(2, w_ 1), (0, l_ 1 (iB (X.getD 2 0))), (0, w_ 1), (3, t_ (iN a)), (3, w_ 1), (0, l_ 1 (iB (X.getD 3 0))), (0, w_ 1), (4, t_ (iN m)), (0, t_ (aG #[iN a, iN b, iN r, iN m]))] [(0, b_ 0)] 3 [] [] (⟨by omega, by decide, rfl, (cn_get _ _ _ (by rw [hl]; decide)), (by have := hX 2; omega), by omega, by omega, (by have := hX 2; omega), (by have := hX 2; omega), (vI ha), by decide, rfl, (cn_get _ _ _ (by rw [hl]; decide)), (by have := hX 3; omega), by omega, by omega, by omega, (by have := hX 3; omega), (by have := hX 3; omega), (vI hm), (by kernel_rfl), rfl, rfl, rfl, (by kernel_rfl), rfl, fun _ _ FF4 MM4 => then_n ?_⟩))
  refine wp_ret ?_
  repeat first | refine then_ret ?_ | refine inb_ret ?_
  exact (retc FF4 MM4 (k := 4) (i := 0) (j := 0) Try.results8 rfl rfl Try.underlying25 rfl (by kernel_rfl) rfl ⟨rfl, MM4.below⟩)
theorem few_ex (X : List Nat) (hl : X.length = 4) (hX : ∀ i, X.getD i 0 < 256) : ∃ a b r m : Nat, TOk a b r m ∧ ∀ w, Calls Try.prog 8 #[.agg (cn .u8 X)] w fun e w' => e = .returned (.agg #[iN a, iN b, iN r, iN m]) ∧ Below w.heap.size w w' := by
  obtain ⟨b, hb⟩ : ∃ b, 1 + X.getD 0 0 % 15 = b := ⟨_, rfl⟩
  obtain ⟨r, hr⟩ : ∃ r, X.getD 1 0 % 5 = r := ⟨_, rfl⟩
  obtain ⟨a, ha⟩ : ∃ a, b + 1 + X.getD 2 0 % (16 - b) = a := ⟨_, rfl⟩
  obtain ⟨m, hm⟩ : ∃ m, r + X.getD 3 0 % (9 - 2 * r) = m := ⟨_, rfl⟩
  have ha2 := Nat.mod_lt (X.getD 2 0) (show 0 < 16 - b by omega)
  have hm2 := Nat.mod_lt (X.getD 3 0) (show 0 < 9 - 2 * r by omega)
  exact ⟨a, b, r, m, ⟨by omega, by omega, by omega, by omega, by omega⟩, few_any X hl hX a b r m hb hr ha hm⟩
theorem few0 (w : World) : Calls Try.prog 8 #[.agg (cn .u8 [0, 0, 0, 1])] w fun e w' => e = .returned (.agg #[iN 2, iN 1, iN 0, iN 1]) ∧ Below w.heap.size w w' := few_any [0, 0, 0, 1] rfl (lit_lt (by kernel_rfl)) 2 1 0 1 rfl rfl rfl rfl w
set_option maxRecDepth 100000 in
theorem wakes_any (O : Blks) (hD : Distinct O)  (w0 : World) (H : Has w0 O) :
    Calls Try.prog 7 #[] w0 fun e w' => e = .returned (.bool true) ∧ Below w0.heap.size w0 w' := by
  refine enter_fr Try.func7 rfl Try.ntmps7 (by simp) fun ac (FF : Fr 95 ac []) => ?_
  have MM : MemS (fun k => k < w0.heap.size ∧ ∀ x ∈ O, x.1 ≠ k) w0 w0 O [] := MemS.startN H hD
  have hk0 : TOk 2 1 0 1 := by unfold TOk; decide
  refine wp_seq (rg_c FF MM [] 1 [] [] (fun _ _ FF1 MM1 => then_n ?_))
  refine wp_seq (wp_region_list ?_)
  refine rp_c 2 FF1 MM1 [(0, t_ (.agg (cn .u8 ([0, 0, 0, 1])))), (0, t_ (aG #[iN 2, iN 1, iN 0, iN 1]))] 1 [9] [] (⟨(Eq.trans (show _ = some (cn .u8 ([0, 0, 0, 1])) by kernel_rfl) (congrArg some (Value.agg.inj rfl))), (callP_of en_lFew few0 _), fun _ _ FF2 MM2 => ?_⟩)
  refine st_callE [0, 10] FF2 (d := 10) (mk := fun v => .tuple #[v, iN 0]) en_lawOf rfl rfl (kof_yes 2 1 0 1 hk0 _) rfl (by kernel_rfl) (by decide) fun ac4 wd4 lv3 FF4 hr5 => ?_
  obtain ⟨gk, rfl, hB_gk, hf_gk, hb_gk⟩ := hr5
  have MM6 := MM2.keep hB_gk
  have MM7 : MemS (fun k => k < w0.heap.size ∧ ∀ x ∈ O, x.1 ≠ k) w0 wd4 ((gk, oC #[iN 2, iN 1, iN 0, iN 1] 65) :: O) [] := MM2.addFresh MM6 hb_gk hf_gk
  refine rp_c 5 FF4 MM7 [] 3 [] [] (fun _ _ FF8 MM8 => ?_)
  refine wpl_nil (then_n ?_)
  refine wp_seq (wp_region_list ?_)
  refine st_callE [2, 1, 0, 14] FF8 (d := 14) (mk := fun v => v) en_tnew rfl rfl (tnew_any ([0, 0, 97, 98]) _) rfl (by kernel_rfl) (by decide) fun ac10 wd10 lv9 FF10 hr11 => ?_
  obtain ⟨gt, rfl, hB_gt, hf_gt, hb_gt⟩ := hr11
  have MM12 := MM8.keep hB_gt
  have MM13 : MemS (fun k => k < w0.heap.size ∧ ∀ x ∈ O, x.1 ≠ k) w0 wd10 ((gt, oC #[sB ([0, 0, 97, 98]), iN 0] 56) :: (gk, oC #[iN 2, iN 1, iN 0, iN 1] 65) :: O) [] := MM8.addFresh MM12 hb_gt hf_gt
  refine rp_c 1 FF10 MM13 [] 16 [] [] (fun _ wd14 FF14 MM14 => ?_)
  refine st_callE [2, 1, 0, 16] FF14 (d := 16) (mk := fun v => .tuple #[.agg #[iN 1, iN 1, .slice (pOf v) (3) (cOf v)], iN 0]) en_mk rfl rfl (by have h0 := mk_any gt gk 2 1 0 1 hk0 ([0, 0, 97, 98]) 0 (lit_lt (by kernel_rfl)) (by decide) ((1 : Nat) : Int) wd14 (MM14.get 1 rfl) (MM14.get 0 rfl); rw [show cvZ 2 1 0 1 ((1 : Nat) : Int) [0, 0, 97, 98] = (0, 1, 1, 2) by decide +kernel] at h0; exact h0) rfl (by kernel_rfl) (by decide) fun ac17 wd17 lv16 FF17 hr18 => ?_
  have ht9 := hr18.1
  have MM19 : MemS (fun k => k < w0.heap.size ∧ ∀ x ∈ O, x.1 ≠ k) w0 wd17 ((gt, oC #[sB [], iN 142] 56) :: (gk, oC #[iN 2, iN 1, iN 0, iN 1] 65) :: O) [] := MM14.turnAt ht9 0 rfl
  obtain ⟨O20, MM210, hR22, hs23⟩ := MemS.addRowT (K := [(gt, oC #[sB [], iN 142] 56), (gk, oC #[iN 2, iN 1, iN 0, iN 1] 65)]) (O := O) MM14 MM19 rfl hr18.2
  have MM21 : MemS (fun k => k < w0.heap.size ∧ ∀ x ∈ O, x.1 ≠ k) w0 wd17 ((gt, oC #[sB [], iN 142] 56) :: (gk, oC #[iN 2, iN 1, iN 0, iN 1] 65) :: O20) [] := MM210
  have hR24 : RowO O20 (pOf lv16) 3 (fun k9 => sB (reqC 1 ([97, 98]) k9)) := hR22
  refine rp_c 6 FF17 MM21 [(4, b_ 0)] 5 [] [] (fun bc => ⟨rfl, rfl, rfl, (by kernel_rfl), rfl, fun _ _ FF25 MM25 => ?_⟩)
  refine wpl_nil (then_n ?_)
  refine wp_seq (rg_c FF25 MM25 [(1, u_ 1 (.tuple #[aG #[iN 0, iN 0, .slice none 0 0], iN 1])), (4, b_ 0)] 5 [6] [] (⟨⟨en_mk, fun w Hw => mk_pnil gk 2 1 0 1 hk0 ((1 : Nat) : Int) w (Hw 2 _ rfl)⟩, fun bd => ⟨rfl, rfl, rfl, (by kernel_rfl), rfl, fun _ _ FF26 MM26 => then_n ?_⟩⟩))
  refine wp_seq (rg_dc 72 FF26 MM26 ((1, w_ 2) :: (2, w_ 2) :: (3, l_ 1 (iN 1)) :: (0, w_ 2) :: (3, l_ 1 (iN 1)) :: (0, w_ 2) :: (3, l_ 1 (.slice (pOf lv16) 3 (cOf lv16))) :: (1, w_ 2) :: (3, l_ 1 (.slice (pOf lv16) 3 (cOf lv16))) :: (0, f_ (.pointer (some ⟨gOf (pOf lv16), oOf (pOf lv16) + 0, none⟩))) :: (0, f_ (sB (reqC 1 ([97, 98]) 0))) :: (0, t_ (iN 52)) :: (0, w_ 2) :: (3, l_ 1 (.slice (pOf lv16) 3 (cOf lv16))) :: (0, f_ (.pointer (some ⟨gOf (pOf lv16), oOf (pOf lv16) + 1, none⟩))) :: (0, f_ (sB (reqC 1 ([97, 98]) 1))) :: (0, t_ (iN 52)) :: (0, w_ 2) :: (3, l_ 1 (.slice (pOf lv16) 3 (cOf lv16))) :: (0, f_ (.pointer (some ⟨gOf (pOf lv16), oOf (pOf lv16) + 2, none⟩))) :: (0, f_ (sB (reqC 1 ([97, 98]) 2))) :: (0, t_ (iN 52)) :: (0, w_ 2) :: (3, l_ 1 (.slice (pOf lv16) 3 (cOf lv16))) :: (0, f_ (.pointer (some ⟨gOf (pOf lv16), oOf (pOf lv16) + 1, none⟩))) :: (0, f_ (sB (reqC 1 ([97, 98]) 1))) :: (0, t_ (sB ((reqC 1 [97, 98] 1).take 16))) :: (1, l_ 1 (.slice (pOf lv16) 3 (cOf lv16))) :: (0, f_ (.pointer (some ⟨gOf (pOf lv16), oOf (pOf lv16) + 2, none⟩))) :: (0, f_ (sB (reqC 1 ([97, 98]) 2))) :: (0, t_ (sB ((reqC 1 [97, 98] 2).take 16))) :: (0, w_ 2) :: (3, l_ 1 (.slice (pOf lv16) 3 (cOf lv16))) :: (0, f_ (.pointer (some ⟨gOf (pOf lv16), oOf (pOf lv16) + 0, none⟩))) :: (0, f_ (sB (reqC 1 ([97, 98]) 0))) :: (0, t_ (sB ((reqC 1 [97, 98] 0).take 2))) :: (0, w_ 2) :: (3, w_ 2) :: []) [] 2 [3] [] (⟨by decide, by decide, rfl, rfl, by decide, rfl, rfl, by decide, rfl, rfl, by decide, rfl, rfl, (rowX_addr (x := (.tmp 48)) (y := (.const (iN 0))) (k := 1) (i := 0) (by kernel_rfl) rfl rfl Try.underlying36 (by kernel_rfl) hR24 (by omega) (by decide)), (rowX_load (x := (.tmp 49)) (j := 0) (by kernel_rfl) rfl Try.underlying9 rfl hR24 (fun _ hx => List.mem_cons_of_mem _ (List.mem_cons_of_mem _ (List.mem_cons_of_mem _ (List.mem_cons_of_mem _ (hx))))) (by omega) rfl), (vI ((bs_size _).trans rfl)), rfl, rfl, rfl, (rowX_addr (x := (.tmp 56)) (y := (.const (iN 1))) (k := 1) (i := 1) (by kernel_rfl) rfl rfl Try.underlying36 (by kernel_rfl) hR24 (by omega) (by decide)), (rowX_load (x := (.tmp 57)) (j := 1) (by kernel_rfl) rfl Try.underlying9 rfl hR24 (fun _ hx => List.mem_cons_of_mem _ (List.mem_cons_of_mem _ (List.mem_cons_of_mem _ (List.mem_cons_of_mem _ (hx))))) (by omega) rfl), (vI ((bs_size _).trans rfl)), rfl, rfl, rfl, (rowX_addr (x := (.tmp 64)) (y := (.const (iN 2))) (k := 1) (i := 2) (by kernel_rfl) rfl rfl Try.underlying36 (by kernel_rfl) hR24 (by omega) (by decide)), (rowX_load (x := (.tmp 65)) (j := 2) (by kernel_rfl) rfl Try.underlying9 rfl hR24 (fun _ hx => List.mem_cons_of_mem _ (List.mem_cons_of_mem _ (List.mem_cons_of_mem _ (List.mem_cons_of_mem _ (hx))))) (by omega) rfl), (vI ((bs_size _).trans rfl)), rfl, rfl, rfl, (rowX_addr (x := (.tmp 72)) (y := (.const (iN 1))) (k := 1) (i := 1) (by kernel_rfl) rfl rfl Try.underlying36 (by kernel_rfl) hR24 (by omega) (by decide)), (rowX_load (x := (.tmp 73)) (j := 1) (by kernel_rfl) rfl Try.underlying9 rfl hR24 (fun _ hx => List.mem_cons_of_mem _ (List.mem_cons_of_mem _ (List.mem_cons_of_mem _ (List.mem_cons_of_mem _ (hx))))) (by omega) rfl), (Nat.zero_le _), (by rw [bs_size, show (reqC 1 ([97, 98]) 1).length = 52 from (reqC_len 1 ([97, 98]) 1)]; omega), (vS2 (bs_extract _ _ _)), rfl, rfl, (rowX_addr (x := (.tmp 77)) (y := (.const (iN 2))) (k := 1) (i := 2) (by kernel_rfl) rfl rfl Try.underlying36 (by kernel_rfl) hR24 (by omega) (by decide)), (rowX_load (x := (.tmp 78)) (j := 2) (by kernel_rfl) rfl Try.underlying9 rfl hR24 (fun _ hx => List.mem_cons_of_mem _ (List.mem_cons_of_mem _ (List.mem_cons_of_mem _ (List.mem_cons_of_mem _ (hx))))) (by omega) rfl), (Nat.zero_le _), (by rw [bs_size, show (reqC 1 ([97, 98]) 2).length = 52 from (reqC_len 1 ([97, 98]) 2)]; omega), (vS2 (bs_extract _ _ _)), (by decide +kernel), rfl, rfl, (rowX_addr (x := (.tmp 85)) (y := (.const (iN 0))) (k := 1) (i := 0) (by kernel_rfl) rfl rfl Try.underlying36 (by kernel_rfl) hR24 (by omega) (by decide)), (rowX_load (x := (.tmp 86)) (j := 0) (by kernel_rfl) rfl Try.underlying9 rfl hR24 (fun _ hx => List.mem_cons_of_mem _ (List.mem_cons_of_mem _ (List.mem_cons_of_mem _ (List.mem_cons_of_mem _ (hx))))) (by omega) rfl), (Nat.zero_le _), (by rw [bs_size, show (reqC 1 ([97, 98]) 0).length = 52 from (reqC_len 1 ([97, 98]) 0)]; omega), (vS2 (bs_extract _ _ _)), (by decide +kernel), by decide, fun _ _ FF27 MM27 => then_n ?_⟩))
  refine wp_ret ?_
  repeat first | refine then_ret ?_ | refine inb_ret ?_
  exact (ret_fr FF27 0 Try.results7 rfl ⟨rfl, MM27.belowN H (fun _ hx => List.mem_cons_of_mem _ (List.mem_cons_of_mem _ (List.mem_cons_of_mem _ (List.mem_cons_of_mem _ (hs23 _ hx)))))⟩)
theorem wakes_w (w : World) : Calls Try.prog 7 #[] w fun e w' => e = .returned (.bool true) ∧ Below w.heap.size w w' := wakes_any [] trivial w (fun i x hx => by simp at hx)
end Go.Proofs.Ythgfjeljfiadmaa
namespace Go.Proofs.Ythgfjeljfiadmaa
open Go.RowKit
section
variable {K V : Type}
/-- A map's entries: the one at place i was born i-th. -/
def ents (kf : K → Value) (vf : V → Value) : Nat → List (K × V) → List MapEntry
  | _, [] => []
  | i, p :: r => ⟨kf p.1, vf p.2, i⟩ :: ents kf vf (i + 1) r
def mapO (kf : K → Value) (vf : V → Value) (l : List (K × V)) : Obj := .map (ents kf vf 0 l).toArray l.length
def mget [DecidableEq K] (x : K) : List (K × V) → Option V
  | [] => none
  | p :: r => if p.1 = x then some p.2 else mget x r
def mput [DecidableEq K] (x : K) (v : V) : List (K × V) → List (K × V)
  | [] => [(x, v)]
  | p :: r => if p.1 = x then (x, v) :: r else p :: mput x v r
def Uniq (l : List (K × V)) : Prop := l.Pairwise fun p q => p.1 ≠ q.1
variable {kf : K → Value} {vf : V → Value}
theorem ents_get : ∀ (l : List (K × V)) (i j : Nat), (ents kf vf i l)[j]? = (l[j]?).map fun p => ⟨kf p.1, vf p.2, i + j⟩
  | [], _, _ => by simp [ents]
  | p :: r, i, 0 => by simp [ents]
  | p :: r, i, j + 1 => by
    simp only [ents, List.getElem?_cons_succ]
    rw [ents_get r (i + 1) j, Nat.add_right_comm, Nat.add_assoc]
theorem ents_app : ∀ (l : List (K × V)) (i : Nat) (p : K × V), ents kf vf i (l ++ [p]) = ents kf vf i l ++ [⟨kf p.1, vf p.2, i + l.length⟩]
  | [], i, p => by simp [ents]
  | q :: r, i, p => by
    simp only [List.cons_append, ents]
    rw [ents_app r (i + 1) p, List.length_cons, Nat.add_right_comm, Nat.add_assoc]
theorem ents_set (x : K) (v : V) : ∀ (l : List (K × V)) (i j : Nat), j < l.length → ents kf vf i (l.set j (x, v)) = (ents kf vf i l).set j ⟨kf x, vf v, i + j⟩
  | [], _, _, h => by simp at h
  | q :: r, i, 0, _ => by simp [ents]
  | q :: r, i, j + 1, h => by
    simp only [List.set_cons_succ, ents]
    rw [ents_set x v r (i + 1) j (by simpa using h), Nat.add_right_comm, Nat.add_assoc]
theorem makeMap_ok {P : Program} {t : TypeId} {sl : Slots} {L : Blks} {o : Oper} (ho : o.op = .makeMap t none) : RunN P sl L o (mkOf (.map none)) (mapO kf vf []) := fun ρ w A _ => by
  simp [execOp, ho, run_makeMap, mkOf, mapO, ents]
variable [DecidableEq K]
theorem mput_new {x : K} (v : V) : ∀ {l : List (K × V)}, mget x l = none → mput x v l = l ++ [(x, v)]
  | [], _ => rfl
  | p :: r, h => by
    rw [mget] at h
    split at h
    · cases h
    · rename_i e
      rw [mput, if_neg e, mput_new v h, List.cons_append]
theorem mget_mem {x : K} {v : V} : ∀ {l : List (K × V)}, mget x l = some v → (x, v) ∈ l
  | [], h => by cases h
  | p :: r, h => by
    rw [mget] at h
    split at h
    · rename_i e
      rw [← e, ← Option.some.inj h]
      exact List.mem_cons_self ..
    · exact List.mem_cons_of_mem _ (mget_mem h)
theorem mget_none {x : K} : ∀ {l : List (K × V)}, (∀ p ∈ l, p.1 ≠ x) → mget x l = none
  | [], _ => rfl
  | p :: r, h => by rw [mget, if_neg (h p (List.mem_cons_self ..)), mget_none fun q hq => h q (List.mem_cons_of_mem _ hq)]
/-- Where keys are unlike the one at place j is found, and turned there. -/
theorem mget_at {x : K} {v : V} : ∀ {l : List (K × V)} {j : Nat}, Uniq l → l[j]? = some (x, v) → mget x l = some v ∧ ∀ u, mput x u l = l.set j (x, u)
  | [], _, _, h => by simp at h
  | p :: r, 0, _, h => by
    simp only [List.getElem?_cons_zero, Option.some.injEq] at h
    subst h
    exact ⟨by rw [mget, if_pos rfl], fun u => by rw [mput, if_pos rfl, List.set_cons_zero]⟩
  | p :: r, j + 1, hu, h => by
    obtain ⟨h1, h2⟩ := List.pairwise_cons.1 hu
    simp only [List.getElem?_cons_succ] at h
    have hne : p.1 ≠ x := h1 (x, v) (List.mem_of_getElem? h)
    obtain ⟨a, b⟩ := mget_at h2 h
    exact ⟨by rw [mget, if_neg hne, a], fun u => by rw [mput, if_neg hne, b, List.set_cons_succ]⟩
theorem mem_mput {x : K} {v : V} {p : K × V} : ∀ {l : List (K × V)}, p ∈ mput x v l → p = (x, v) ∨ p ∈ l
  | [], h => by simpa [mput] using h
  | q :: r, h => by
    unfold mput at h
    split at h
    · rcases List.mem_cons.1 h with h | h
      · exact .inl h
      · exact .inr (List.mem_cons_of_mem _ h)
    · rcases List.mem_cons.1 h with h | h
      · exact .inr (h ▸ List.mem_cons_self ..)
      · exact (mem_mput h).imp_right (List.mem_cons_of_mem _)
theorem Uniq.put {l : List (K × V)} (h : Uniq l) (x : K) (v : V) : Uniq (mput x v l) := by
  induction l with
  | nil => simp [mput, Uniq]
  | cons p r ih =>
    obtain ⟨h1, h2⟩ := List.pairwise_cons.1 h
    unfold mput
    split
    · rename_i e
      exact List.pairwise_cons.2 ⟨fun q hq => by rw [← e]; exact h1 q hq, h2⟩
    · rename_i e
      refine List.pairwise_cons.2 ⟨fun q hq => ?_, ih h2⟩
      rcases mem_mput hq with rfl | hq
      · exact e
      · exact h1 q hq
/-- Keys that may be: what the program takes for one is one. -/
structure MKey (P : Program) (k : TypeId) (kf : K → Value) (Ok : K → Prop) : Prop where
  law : WideMaps.KeyLaw P k
  lit : ∀ x, Ok x → ∃ l, keyOf P k (kf x) = some l
  inj : ∀ x y, Ok x → Ok y → kf x = kf y → x = y
variable {P : Program} {k t e : TypeId} {Ok : K → Prop} {l : List (K × V)} {x : K}
theorem find_ents (H : MKey P k kf Ok) (hl : ∀ p ∈ l, Ok p.1) (hu : Uniq l) (hx : Ok x) (w : World) :
    (mget x l = none ∧ (Instr.findKey k (kf x) (ents kf vf 0 l)).run P w = .ok none w) ∨ ∃ v j, mget x l = some v ∧ l[j]? = some (x, v) ∧ (∀ u, mput x u l = l.set j (x, u)) ∧ (Instr.findKey k (kf x) (ents kf vf 0 l)).run P w = .ok (some (j, vf v)) w := by
  obtain ⟨lx, hlx⟩ := H.lit x hx
  rcases H.law.find w hlx (ents kf vf 0 l) (fun m hm => by
    obtain ⟨j, hj⟩ := List.mem_iff_getElem?.1 hm
    rw [ents_get] at hj
    obtain ⟨p, hp, rfl⟩ := Option.map_eq_some_iff.1 hj
    exact H.lit p.1 (hl p (List.mem_of_getElem? hp))) with ⟨h1, h2⟩ | ⟨j, m, h1, h2, h3⟩
  · refine .inl ⟨mget_none fun p hp hpx => ?_, h1⟩
    obtain ⟨j, hj⟩ := List.mem_iff_getElem?.1 hp
    exact h2 ⟨kf p.1, vf p.2, 0 + j⟩ (List.mem_of_getElem? ((ents_get l 0 j).trans (by rw [hj]; rfl))) (by rw [hpx])
  · rw [ents_get] at h2
    obtain ⟨p, hp, rfl⟩ := Option.map_eq_some_iff.1 h2
    obtain rfl := H.inj p.1 x (hl p (List.mem_of_getElem? hp)) hx h3
    have := mget_at hu hp
    exact .inr ⟨p.2, j, this.1, hp, this.2, h1⟩
variable {sl : Slots} {L : Blks} {o : Oper} {m y : Operand} {b i : Nat}
/-- 'v, ok := m[k]' of a key that is there. -/
theorem mapYes_ok {c : Bool} {v : V} (ho : o.op = .lookup t m y c) (hm : evO sl m = some (.map (some b))) (hy : evO sl y = some (kf x)) (ht : P.underlying t = some (.map k e)) (H : MKey P k kf Ok) (hl : ∀ p ∈ l, Ok p.1) (hu : Uniq l) (hx : Ok x)
    (hL : L[i]? = some (b, mapO kf vf l)) (h : mget x l = some v) : RunV P sl L o (if c then .tuple #[vf v, .bool true] else vf v) := fun ρ w A Hw => by
  obtain ⟨lx, hlx⟩ := H.lit x hx
  have h1 := A m _ hm
  have h2 := A y _ hy
  have hb : w.heap[b]? = some (.map (ents kf vf 0 l).toArray l.length) := Hw i _ hL
  rcases find_ents (vf := vf) H hl hu hx w with ⟨q, _⟩ | ⟨u, j, q, _, _, hf⟩
  · rw [h] at q; cases q
  · rw [h] at q
    obtain rfl := Option.some.inj q
    simp [execOp, ho, h1, h2, Instr.lookup, run_underlying ht, MapKept.run_getObj_map hb, H.law.check w _ hlx, hf, Result.andThen]
theorem zero_run {P : Program} {e : TypeId} {z : Value} (hi : (P.info? e).map (·.zero) = some (some z)) (w : World) : (zeroValue e).run P w = .ok z w := by
  obtain ⟨i, h1, h2⟩ := Option.map_eq_some_iff.1 hi
  simp [zeroValue, run_typeInfo w h1, h2]
/-- .. of one that is not. -/
theorem mapNo_ok {c : Bool} {z : Value} (ho : o.op = .lookup t m y c) (hm : evO sl m = some (.map (some b))) (hy : evO sl y = some (kf x)) (ht : P.underlying t = some (.map k e)) (H : MKey P k kf Ok) (hl : ∀ p ∈ l, Ok p.1) (hu : Uniq l) (hx : Ok x)
    (hL : L[i]? = some (b, mapO kf vf l)) (hi : (P.info? e).map (·.zero) = some (some z)) (h : mget x l = none) : RunV P sl L o (if c then .tuple #[z, .bool false] else z) := fun ρ w A Hw => by
  obtain ⟨lx, hlx⟩ := H.lit x hx
  have h1 := A m _ hm
  have h2 := A y _ hy
  have hb : w.heap[b]? = some (.map (ents kf vf 0 l).toArray l.length) := Hw i _ hL
  rcases find_ents (vf := vf) H hl hu hx w with ⟨_, hf⟩ | ⟨u, j, q, _, _, hf⟩
  · simp [execOp, ho, h1, h2, Instr.lookup, run_underlying ht, MapKept.run_getObj_map hb, H.law.check w _ hlx, hf, zero_run hi, Result.andThen]
  · rw [h] at q; cases q
theorem post_block {ob ob' : Obj} {w : World} {v : Nat → Value} (hL : L[i]? = some (b, ob)) (hb : w.heap[b]? = some ob) : Post w (ChangeMaps.setBlock w b ob') L ⟨v, none, [(i, ob')]⟩ 0 := by
  refine ⟨rfl, rfl, rfl, by simp [ChangeMaps.setBlock], fun j _ hn => ?_, fun o h => (nomatch h), fun _ => rfl, fun u hu z hz => ?_⟩
  · have : b ≠ j := hn (i, ob') (by simp) _ hL
    simp only [ChangeMaps.setBlock]
    exact Array.getElem?_setIfInBounds_ne this
  · obtain rfl : u = (i, ob') := by simpa using hu
    simp only at hz
    rw [hL] at hz
    obtain rfl := Option.some.inj hz
    simp only [ChangeMaps.setBlock]
    rw [Array.getElem?_setIfInBounds, if_pos rfl, if_pos (lt_of_block hb)]
/-- 'm[k] = v'. -/
theorem mapPut_ok {v : V} {z : Operand} (ho : o.op = .mapUpdate t m y z) (hm : evO sl m = some (.map (some b))) (hy : evO sl y = some (kf x)) (hz : evO sl z = some (vf v)) (ht : P.underlying t = some (.map k e)) (H : MKey P k kf Ok) (hl : ∀ p ∈ l, Ok p.1) (hu : Uniq l) (hx : Ok x)
    (hL : L[i]? = some (b, mapO kf vf l)) : RunU P sl L o undef [(i, mapO kf vf (mput x v l))] := fun ρ w A Hw => by
  obtain ⟨lx, hlx⟩ := H.lit x hx
  have h1 := A m _ hm
  have h2 := A y _ hy
  have h3 := A z _ hz
  have hb : w.heap[b]? = some (.map (ents kf vf 0 l).toArray l.length) := Hw i _ hL
  refine ⟨ChangeMaps.setBlock w b (mapO kf vf (mput x v l)), .inr ⟨rfl, ?_⟩, post_block hL hb⟩
  rcases find_ents (vf := vf) H hl hu hx w with ⟨q, hf⟩ | ⟨u, j, q, hj, hp, hf⟩
  · rw [mput_new v q]
    simp [execOp, ho, h1, h2, h3, Instr.mapUpdate, run_underlying ht, MapKept.run_getObj_map hb, H.law.check w _ hlx, hf, MapKept.run_setObj_map _ hb, Result.andThen, ChangeMaps.setBlock, mapO, ents_app]
  · have hjl : j < l.length := (List.getElem?_eq_some_iff.1 hj).1
    have hje : (ents kf vf 0 l)[j]? = some ⟨kf x, vf u, 0 + j⟩ := (ents_get l 0 j).trans (by rw [hj]; rfl)
    have hm' : (ents kf vf 0 l).modify j (fun e' => { e' with key := kf x, val := vf v }) = ents kf vf 0 (mput x v l) := by
      rw [ChangeMaps.modify_eq_set _ _ _ _ hje, hp, ents_set x v l 0 j hjl]
    simp [execOp, ho, h1, h2, h3, Instr.mapUpdate, run_underlying ht, MapKept.run_getObj_map hb, H.law.check w _ hlx, hf, hje, H.law.stays w hlx, MapKept.run_setObj_map _ hb, Result.andThen, ChangeMaps.setBlock, mapO, hm']
    rw [hp, List.length_set]
end
section
variable {P : Program} {d k e f n m : Nat}
theorem mapM_all {α β : Type} {g : α → Option β} : ∀ {l : List α}, (∀ x ∈ l, ∃ y, g x = some y) → ∃ ys, l.mapM g = some ys
  | [], _ => ⟨[], rfl⟩
  | x :: r, h => by
    obtain ⟨y, hy⟩ := h x (List.mem_cons_self ..)
    obtain ⟨ys, hys⟩ := mapM_all fun z hz => h z (List.mem_cons_of_mem _ hz)
    exact ⟨y :: ys, by simp [List.mapM_cons, hy, hys]⟩
def BytesK (n : Nat) (X : List Nat) : Prop := X.length = n ∧ ∀ i, X.getD i 0 < 256
theorem lits_u8 (he : P.underlying e = some (.int .u8)) {x : Nat} (hx : x < 256) : P.keyLits (d + 1) e [.int .u8 (x : Nat)] = some [.int .u8 (x : Nat)] := by
  unfold Program.keyLits
  rw [he]
  refine if_pos ⟨rfl, ?_⟩
  rw [Lit.wf, Bool.and_eq_true, decide_eq_true_eq, decide_eq_true_eq]
  exact ⟨by show (0 : Int) ≤ x; omega, by show (x : Int) ≤ 255; omega⟩
theorem lits_bytes {X : List Nat} (ht : P.underlying k = some (.array n e)) (he : P.underlying e = some (.int .u8)) (h1 : P.cellsOf e = 1) (hn : P.cellsOf k = n) (hX : BytesK n X) : ∃ l, P.keyLits (d + 2) k (cn .u8 X).toList = some l := by
  have hl : (cn .u8 X).toList.length = n := by rw [Array.length_toList, cn_size]; exact hX.1
  obtain ⟨ys, hys⟩ := mapM_all (g := fun i => P.keyLits (d + 1) e (((cn .u8 X).toList.drop (i * 1)).take 1)) (l := List.range n) fun i hi => by
    have hi' : i < X.length := by have := List.mem_range.1 hi; have := hX.1; omega
    have e1 : ((cn .u8 X).toList.drop (i * 1)).take 1 = [.int .u8 (X.getD i 0 : Nat)] := by
      rw [Nat.mul_one]
      refine List.ext_getElem? fun j => ?_
      rw [List.getElem?_take]
      split
      · obtain rfl : j = 0 := by omega
        rw [List.getElem?_drop, Nat.add_zero, Array.getElem?_toList, cn_get _ _ _ hi']
        rfl
      · rw [List.getElem?_eq_none (by simp only [List.length_cons, List.length_nil]; omega)]
    exact ⟨_, by rw [e1]; exact lits_u8 he (hX.2 i)⟩
  refine ⟨ys.flatten, ?_⟩
  unfold Program.keyLits
  rw [ht]
  dsimp only
  rw [if_pos (by rw [hl, hn]), h1, hys]
  rfl
theorem bytes_key (hl : laidOutB P = true) (hs : P.types.size + 2 ≤ 10000) (hd : P.types.size = d + 1) (hr : k < P.types.size) (hk : P.keyType k = true) (ht : P.underlying k = some (.array n e)) (he : P.underlying e = some (.int .u8)) (h1 : P.cellsOf e = 1) (hn : P.cellsOf k = n) :
    MKey P k (fun X => .agg (cn .u8 X)) (BytesK n) where
  law := deep_law_gate hl hs hr hk (by rw [ht])
  lit X hX := by
    obtain ⟨l, h⟩ := lits_bytes (d := d) ht he h1 hn hX
    exact ⟨_, by simp only [keyOf, ht, hk, Value.formed, Value.cells, cn_size, hX.1, hn, hd, h, BEq.rfl, Bool.and_self, if_true, Option.map_some]; rfl⟩
  inj X Y hX hY h := by
    refine List.ext_getElem (hX.1.trans hY.1.symm) fun i h1 h2 => ?_
    have e1 := cn_get .u8 X i h1
    rw [Value.agg.inj h, cn_get .u8 Y i h2] at e1
    have e2 := Int.ofNat.inj (Value.int.inj (Option.some.inj e1)).2
    rw [List.getD_eq_getElem?_getD, List.getD_eq_getElem?_getD, List.getElem?_eq_getElem h1, List.getElem?_eq_getElem h2] at e2
    exact e2.symm
end
end Go.Proofs.Ythgfjeljfiadmaa
namespace Go.Proofs.Ythgfjeljfiadmaa
open Go.RowKit
section
variable {P : Program} {a : Act} {w : World} {Q : Exit → Act → World → Prop}
/-- 'for' with a step, a test and a body alone. -/
theorem wp_forw {id id' t : Nat} {c body : Code} (I : Act → World → Prop) (μ : Act → World → Nat) (h0 : I a w)
    (H : ∀ a w, I a w → c.wp P (Exit.then (fun a1 w1 => (a1.eval (.tmp t) = .bool true ∧ body.wp P (Exit.inBlock id' (Exit.then (fun a' w' => I a' w' ∧ μ a' w' < μ a w) (Exit.inBlock id Q))) a1 w1) ∨
      (a1.eval (.tmp t) = .bool false ∧ Q .normal a1 w1)) (Exit.inBlock id Q)) a w) :
    (Code.block id (.loop (.seq c (.seq (.cond (.tmp t) .skip (.exit id)) (.block id' body))))).wp P Q a w := by
  refine wp_block (wp_loop I μ h0 fun a w hI => wp_seq (wp_mono (H a w hI) fun e a1 w1 h => ?_))
  cases e with
  | normal =>
    rcases h with ⟨ht, hb⟩ | ⟨hf, hq⟩
    · exact wp_seq (wp_cond_true ht (wp_skip (wp_block hb)))
    · exact wp_seq (wp_cond_false hf (wp_exit ((inb_exit _ _ _ _).2 hq)))
  | exit i => exact h
  | goto i => exact h
  | ret => exact h
  | panic c => exact h
  | outgrown => exact h
end
section
variable {K V : Type} {kf : K → Value} {vf : V → Value} {l : List (K × V)} {seen : List Nat}
/-- An iterator over the map in block b, of n entries: those at the places seen have come out. -/
def iterO (b n : Nat) (seen : List Nat) : Obj := .mapIter (some b) n seen.toArray n
theorem iterSeen_of {w : World} {r b n : Nat} (h : w.heap[r]? = some (iterO b n seen)) : w.iterSeen r = seen.toArray := by
  unfold World.iterSeen
  rw [h]
  rfl
theorem left_mem {e : MapEntry} : e ∈ (Go.leftOf (ents kf vf 0 l).toArray seen.toArray).toList ↔ ∃ p x v, l[p]? = some (x, v) ∧ p ∉ seen ∧ e = ⟨kf x, vf v, p⟩ := by
  simp only [Go.leftOf, Array.mem_toList_iff, Array.mem_filter, List.mem_toArray]
  constructor
  · rintro ⟨h1, h2⟩
    obtain ⟨p, hp⟩ := List.mem_iff_getElem?.1 h1
    rw [ents_get] at hp
    obtain ⟨⟨x, v⟩, hx, rfl⟩ := Option.map_eq_some_iff.1 hp
    refine ⟨p, x, v, hx, fun h => ?_, by rw [Nat.zero_add]⟩
    simp [h] at h2
  · rintro ⟨p, x, v, hx, hs, rfl⟩
    refine ⟨List.mem_of_getElem? (i := p) (by rw [ents_get, hx, Nat.zero_add]; rfl), ?_⟩
    simp [hs]
theorem ents_born_lt : ∀ e ∈ (ents kf vf 0 l).toArray.toList, e.born < l.length := fun e he => by
  obtain ⟨p, hp⟩ := List.mem_iff_getElem?.1 he
  rw [ents_get] at hp
  obtain ⟨x, hx, rfl⟩ := Option.map_eq_some_iff.1 hp
  simp only [Nat.zero_add]
  exact (List.getElem?_eq_some_iff.1 hx).1
theorem ents_nodup : ∀ (l : List (K × V)) (i : Nat), ((ents kf vf i l).map (·.born)).Nodup ∧ ∀ b ∈ (ents kf vf i l).map (·.born), i ≤ b
  | [], i => ⟨.nil, fun _ h => (nomatch h)⟩
  | p :: r, i => by
    obtain ⟨h1, h2⟩ := ents_nodup r (i + 1)
    refine ⟨List.nodup_cons.2 ⟨fun h => by have : i + 1 ≤ i := h2 _ h; omega, h1⟩, fun b hb => ?_⟩
    rcases List.mem_cons.1 hb with rfl | hb
    · exact Nat.le_refl _
    · have := h2 b hb; omega
/-- How many are left falls. -/
theorem left_less {p : Nat} {x : K} {v : V} (hp : l[p]? = some (x, v)) (hs : p ∉ seen) : (Go.leftOf (ents kf vf 0 l).toArray (seen ++ [p]).toArray).size < (Go.leftOf (ents kf vf 0 l).toArray seen.toArray).size := by
  have := left_shrinks (ents kf vf 0 l).toArray seen.toArray ⟨kf x, vf v, p⟩ (left_mem.2 ⟨p, x, v, hp, hs, rfl⟩)
  rwa [List.push_toArray] at this
variable {P : Program} {sl : Slots} {L : Blks} {o : Oper} {b r i j : Nat}
/-- 'range m'. -/
theorem range_ok {t k e : TypeId} {m : Operand} (ho : o.op = .range t m) (hm : evO sl m = some (.map (some b))) (ht : P.underlying t = some (.map k e)) (hL : L[i]? = some (b, mapO kf vf l)) :
    RunN P sl L o (mkOf (.pointer none)) (iterO b l.length []) := fun ρ w A Hw => by
  have h1 := A m _ hm
  have hb : w.heap[b]? = some (.map (ents kf vf 0 l).toArray l.length) := Hw i _ hL
  have h2 := run_range_map (P := P) w t k e b _ _ ht hb
  simp only [execOp, ho, h1, Sem.run_bind, h2, Result.andThen_ok, Sem.run_pure]
  rfl
/-- The entry that has come out. -/
theorem entry_ok {m : Operand} {p : Nat} {x : K} {v : V} (ho : o.op = .entry m) (hm : evO sl m = some (.pointer (some ⟨r, 0, none⟩))) (hL : L[i]? = some (b, mapO kf vf l)) (hI : L[j]? = some (r, iterO b l.length (seen ++ [p]))) (hp : l[p]? = some (x, v)) :
    RunV P sl L o (.tuple #[kf x, vf v]) := fun ρ w A Hw => by
  have h1 := A m _ hm
  have hb : w.heap[b]? = some (.map (ents kf vf 0 l).toArray l.length) := Hw i _ hL
  have hr : w.heap[r]? = some (.mapIter (some b) l.length (seen.toArray.push p) l.length) := by rw [List.push_toArray]; exact Hw j _ hI
  have h2 := run_entry_at (P := P) w r b l.length seen.toArray (ents kf vf 0 l).toArray l.length ⟨kf x, vf v, p⟩ hr hb (List.mem_of_getElem? (i := p) (by rw [ents_get, hp, Nat.zero_add]; rfl)) (ents_nodup l 0).1
  simp only [execOp, ho, h1, Sem.run_bind, h2, Result.andThen_ok, Sem.run_pure]
variable {ops : Array Oper} {rest : List Oper} {op : Oper} {a : Act} {w0 w : World} {Q : Exit → Act → World → Prop} {n : Nat} {S : Nat → Prop} {R : List Row}
/-- A step: nothing is left, or one that is left comes out. -/
theorem st_next (out : List Nat) (F : Fr n a sl) (M : MemS S w0 w L R) {d : Nat} {m : Operand} (ho : op.op = .next m false) (hm : evO sl m = some (.pointer (some ⟨r, 0, none⟩))) (hL : L[i]? = some (b, mapO kf vf l)) (hI : L[j]? = some (r, iterO b l.length seen)) (hd : op.dst = some d) (hg : op.guard = none) (hn : d < n)
    (K1 : (∀ p, p < l.length → p ∈ seen) → ∀ a', Fr n a' (keepS out (upd d (.tuple #[.bool false]) sl)) → wpList P ops Q rest a' w)
    (K2 : ∀ p x v a' w', l[p]? = some (x, v) → p ∉ seen → Fr n a' (keepS out (upd d (.tuple #[.bool true, kf x, vf v]) sl)) → MemS S w0 w' (setAll [(j, iterO b l.length (seen ++ [p]))] L) R → wpList P ops Q rest a' w') : wpList P ops Q (op :: rest) a w := by
  have h1 := F.agr m _ hm
  have hb : w.heap[b]? = some (.map (ents kf vf 0 l).toArray l.length) := M.has i _ hL
  have hr : w.heap[r]? = some (.mapIter (some b) l.length seen.toArray l.length) := M.has j _ hI
  rcases run_next_at (P := P) w op.type r b l.length l.length seen.toArray (ents kf vf 0 l).toArray l.length hr hb ents_born_lt (Nat.le_refl _) with ⟨h0, hrun⟩ | ⟨e, he, w1, hal, hrun⟩
  · refine wpList_run (v := .tuple #[.bool false]) (w' := w) hg (by simp only [execOp, ho, h1, Sem.run_bind, hrun, Result.andThen_ok, Sem.run_pure]) (K1 (fun p hp => ?_) _ (by rw [hd]; exact (F.put _ hn).keepS out))
    have h2 := all_seen _ _ h0 ⟨kf l[p].1, vf l[p].2, p⟩ (List.mem_of_getElem? (i := p) (by rw [ents_get, List.getElem?_eq_getElem hp, Nat.zero_add]; rfl))
    simpa using h2
  · obtain ⟨p, x, v, hp, hs, rfl⟩ := left_mem.1 he
    refine wpList_run (v := .tuple #[.bool true, kf x, vf v]) (w' := ChangeMaps.setBlock w1 r (iterO b l.length (seen ++ [p]))) hg (by simp only [execOp, ho, h1, Sem.run_bind, hrun, Result.andThen_ok, Sem.run_pure, List.push_toArray]; rfl) (K2 p x v _ _ hp hs (by rw [hd]; exact (F.put _ hn).keepS out) ?_)
    have hp1 : Post w (ChangeMaps.setBlock w1 r (iterO b l.length (seen ++ [p]))) L ⟨fun _ => undef, none, [(j, iterO b l.length (seen ++ [p]))]⟩ 0 := by
      rcases hal with rfl | rfl
      · exact post_block hI hr
      · have h3 := post_block (v := fun _ => undef) (ob' := iterO b l.length (seen ++ [p])) hI (w := w.drew) hr
        exact ⟨h3.os, h3.tape, h3.output, h3.size, h3.block, h3.fresh, h3.zero, h3.turned⟩
    have M' := M.post hp1
    rw [newL_eq] at M'
    simpa using M'
end
end Go.Proofs.Ythgfjeljfiadmaa
namespace Go.Proofs.Ythgfjeljfiadmaa
open Go.RowKit
section
variable {P : Program} {l : Slots} {L : Blks} {o : Oper} {x y : Operand}
/-- A string over a row's head: the bytes are copied, the row is frozen so far. -/
theorem usRow_ok {t u e : TypeId} {g i : Nat} {cs : Array Value} {X : List Nat} (ho : o.op = .call ⟨.builtin .unsafeString, #[x, y], #[t, u]⟩) (hx : evO l x = some (.pointer (some ⟨g, 0, none⟩))) (hy : evO l y = some (.int .i64 (X.length : Nat)))
    (ht : P.underlying t = some (.pointer e)) (hc : P.cellsOf e = 1) (hL : L[i]? = some (g, .cells cs e)) (h0 : 0 < X.length) (hX : ∀ i, X.getD i 0 < 256) (hn : X.length ≤ cs.size) (h63 : X.length ≤ 9223372036854775807) (hcs : ∀ j, j < X.length → cs[j]? = some (.int .u8 (X.getD j 0 : Nat))) :
    RunU P l L o (.string (bs X)) [(i, .cells cs e (0, X.length))] := fun ρ w A H => by
  have h1 := A x _ hx
  have h1' := A y _ hy
  have hb := H i _ hL
  have hbl : (bs X).data.toList.length = X.length := by rw [Array.length_toList]; exact bs_size X
  have hr := Lib.run_unsafeString_row (P := P) w t u o.type e ht hc g cs.size (by simp [World.shape?, hb]) (bs X).data.toList (by intro h; rw [h] at hbl; simp at hbl; omega) (by rw [hbl]; exact hn) (by rw [hbl]; exact h63) (fun j z hz => by
    have hj : j < X.length := by rw [← hbl]; exact (List.getElem?_eq_some_iff.1 hz).1
    have e1 : (⟨g, 0, none⟩ : Addr).add j = ⟨g, j, none⟩ := by unfold Addr.add; split <;> simp_all
    rw [e1, Lib.cell_of_heap hb, hcs j hj]
    have e2 := byte_bs hX j
    simp only [nl] at e2
    have e3 : z.toNat = X.getD j 0 := by
      rw [← e2]
      simp [hz]
    rw [e3])
  rw [hbl] at hr
  refine ⟨w.freeze ⟨g, 0, none⟩ X.length, .inl ?_, ?_⟩
  · simp only [execOp, ho, resolve, invoke, builtin, h1, h1', hr, Sem.run_bind, Sem.run_pure, Result.andThen_ok, List.map_toArray, List.map_cons, List.map_nil]
  · have hne : X.length ≠ 0 := by omega
    unfold World.freeze
    rw [if_neg hne]
    refine ⟨rfl, rfl, rfl, by simp, fun k hk hu => ?_, fun o h => (nomatch h), fun _ => rfl, fun u hu z hz => ?_⟩
    · simp only [Array.getElem?_modify]
      rw [if_neg]
      intro e
      exact hu _ (List.mem_singleton.2 rfl) _ hL e
    · obtain rfl := List.mem_singleton.1 hu
      simp only at hz
      obtain rfl := Option.some.inj (hL.symm.trans hz)
      simp [Array.getElem?_modify, hb]
end
end Go.Proofs.Ythgfjeljfiadmaa
namespace Go.Proofs.Ythgfjeljfiadmaa
open Go.RowKit
def partsR (X : List Nat) : List Nat × List Nat × Bool := if X.length = 52 then (X.take 16, X.drop 16, true) else (List.replicate 16 0, [], false)
theorem partsR_ok {X : List Nat} (h : X.length = 52) : partsR X = (X.take 16, X.drop 16, true) := if_pos h
theorem partsR_no {X : List Nat} (h : X.length ≠ 52) : partsR X = (List.replicate 16 0, [], false) := if_neg h
theorem partsR_len (X : List Nat) : (partsR X).1.length = 16 := by
  unfold partsR
  split
  · simp only [List.length_take]; omega
  · rfl
theorem parts_cells {X : List Nat} (h : X.length = 52) : setFrom (cn .u8 (List.replicate 16 0)) 0 (bcells (X.take 16)) = cn .u8 (X.take 16) := setFrom_new8 (by rw [List.length_take, List.length_replicate, h]; rfl)
/-- Two requests that bear one name. -/
abbrev SM (s : Nat → List Nat) (i j : Nat) : Prop := (s i).length = 52 ∧ (s j).length = 52 ∧ (s i).take 16 = (s j).take 16
theorem SM.symm {s : Nat → List Nat} {i j : Nat} (h : SM s i j) : SM s j i := ⟨h.2.1, h.1, h.2.2.symm⟩
theorem SM.trans {s : Nat → List Nat} {i j k : Nat} (h : SM s i j) (g : SM s j k) : SM s i k := ⟨h.1, g.2.1, h.2.2.trans g.2.2⟩
/-- How many of the first m bear request i's name. -/
def cntS (s : Nat → List Nat) (i : Nat) : Nat → Nat
  | 0 => 0
  | m + 1 => cntS s i m + if SM s i m then 1 else 0
/-- How many others do; the box of the last of these. -/
def oN (s : Nat → List Nat) (i : Nat) : Nat → Nat
  | 0 => 0
  | m + 1 => oN s i m + if m ≠ i ∧ SM s i m then 1 else 0
def oB (s : Nat → List Nat) (i : Nat) : Nat → List Nat
  | 0 => []
  | m + 1 => if m ≠ i ∧ SM s i m then (s m).drop 16 else oB s i m
/-- What request i of n is told. -/
def mAt (s : Nat → List Nat) (n i : Nat) : List Nat := if oN s i n = 1 then oB s i n else List.replicate 36 0
theorem mAt_one {s : Nat → List Nat} {n i : Nat} (h : oN s i n = 1) : mAt s n i = oB s i n := if_pos h
theorem mAt_no {s : Nat → List Nat} {n i : Nat} (h : oN s i n ≠ 1) : mAt s n i = List.replicate 36 0 := if_neg h
theorem cnt_le (s : Nat → List Nat) (i : Nat) : ∀ m, cntS s i m ≤ m
  | 0 => Nat.le_refl _
  | m + 1 => by
    have := cnt_le s i m
    rw [cntS]
    split <;> omega
theorem cnt_none {s : Nat → List Nat} {i : Nat} : ∀ {m : Nat}, cntS s i m = 0 → ∀ j, j < m → ¬ SM s i j
  | 0, _, _, hj => absurd hj (Nat.not_lt_zero _)
  | m + 1, h, j, hj => by
    rw [cntS] at h
    split at h
    · omega
    · rename_i h1
      rcases Nat.lt_or_ge j m with h2 | h2
      · exact cnt_none (by omega) j h2
      · obtain rfl : m = j := by omega
        exact h1
theorem cnt_some {s : Nat → List Nat} {i : Nat} : ∀ {m : Nat}, cntS s i m ≠ 0 → ∃ j, j < m ∧ SM s i j
  | 0, h => absurd rfl h
  | m + 1, h => by
    rw [cntS] at h
    split at h
    · rename_i h1
      exact ⟨m, by omega, h1⟩
    · obtain ⟨j, h1, h2⟩ := cnt_some (m := m) (by omega)
      exact ⟨j, by omega, h2⟩
theorem cnt_cong {s : Nat → List Nat} {i k : Nat} (h : SM s i k) : ∀ m, cntS s i m = cntS s k m
  | 0 => rfl
  | m + 1 => by
    rw [cntS, cntS, cnt_cong h m]
    by_cases h1 : SM s k m
    · rw [if_pos h1, if_pos (h.trans h1)]
    · rw [if_neg h1, if_neg fun h2 => h1 (h.symm.trans h2)]
theorem cnt_bad {s : Nat → List Nat} {i : Nat} (h : (s i).length ≠ 52) : ∀ m, cntS s i m = 0 ∧ oN s i m = 0
  | 0 => ⟨rfl, rfl⟩
  | m + 1 => by
    obtain ⟨h1, h2⟩ := cnt_bad h m
    rw [cntS, oN, h1, h2, if_neg fun g => h g.1, if_neg fun g => h g.2.1]
    exact ⟨rfl, rfl⟩
theorem cnt_oN {s : Nat → List Nat} {i : Nat} (h : (s i).length = 52) : ∀ m, cntS s i m = oN s i m + if i < m then 1 else 0
  | 0 => rfl
  | m + 1 => by
    rw [cntS, oN, cnt_oN h m]
    by_cases h1 : m = i
    · subst h1
      rw [if_neg (Nat.lt_irrefl _), if_pos ⟨h, h, rfl⟩, if_neg fun g => g.1 rfl, if_pos (Nat.lt_succ_self _)]
    · by_cases h2 : SM s i m
      · rw [if_pos h2, if_pos (show m ≠ i ∧ SM s i m from ⟨h1, h2⟩)]
        split <;> split <;> omega
      · rw [if_neg h2, if_neg (show ¬ (m ≠ i ∧ SM s i m) from fun g => h2 g.2)]
        split <;> split <;> omega
theorem cnt_two {s : Nat → List Nat} {i n : Nat} (hi : i < n) : cntS s i n = 2 ↔ oN s i n = 1 := by
  by_cases h : (s i).length = 52
  · rw [cnt_oN h n, if_pos hi]; omega
  · rw [(cnt_bad h n).1, (cnt_bad h n).2]; omega
theorem oN_none {s : Nat → List Nat} {i : Nat} : ∀ {m : Nat}, oN s i m = 0 → ∀ j, j < m → j ≠ i → ¬ SM s i j
  | 0, _, _, hj, _ => absurd hj (Nat.not_lt_zero _)
  | m + 1, h, j, hj, hne => by
    rw [oN] at h
    split at h
    · omega
    · rename_i h1
      rcases Nat.lt_or_ge j m with h2 | h2
      · exact oN_none (by omega) j h2 hne
      · obtain rfl : m = j := by omega
        exact fun h3 => h1 ⟨hne, h3⟩
theorem oN_some {s : Nat → List Nat} {i : Nat} : ∀ {m : Nat}, oN s i m ≠ 0 → ∃ j, j < m ∧ j ≠ i ∧ SM s i j ∧ oB s i m = (s j).drop 16
  | 0, h => absurd rfl h
  | m + 1, h => by
    rw [oN] at h
    rw [oB]
    split at h
    · rename_i h1
      exact ⟨m, by omega, h1.1, h1.2, if_pos h1⟩
    · rename_i h1
      obtain ⟨j, h2, h3, h4, h5⟩ := oN_some (m := m) (by omega)
      exact ⟨j, by omega, h3, h4, (if_neg h1).trans h5⟩
theorem oN_uniq {s : Nat → List Nat} {i : Nat} : ∀ {m : Nat}, oN s i m ≤ 1 → ∀ j k, j < m → k < m → j ≠ i → k ≠ i → SM s i j → SM s i k → j = k
  | 0, _, _, _, hj, _, _, _, _, _ => absurd hj (Nat.not_lt_zero _)
  | m + 1, h, j, k, hj, hk, h1, h2, h3, h4 => by
    rw [oN] at h
    split at h
    · have h5 := oN_none (s := s) (i := i) (m := m) (by omega)
      have e1 : ¬ j < m := fun q => h5 j q h1 h3
      have e2 : ¬ k < m := fun q => h5 k q h2 h4
      omega
    · rename_i h6
      have e1 : j ≠ m := fun q => h6 (q ▸ ⟨h1, h3⟩)
      have e2 : k ≠ m := fun q => h6 (q ▸ ⟨h2, h4⟩)
      exact oN_uniq (m := m) (by omega) j k (by omega) (by omega) h1 h2 h3 h4
theorem mAt_of {s : Nat → List Nat} {n i j : Nat} (h : oN s i n = 1) (h1 : j < n) (h2 : j ≠ i) (h3 : SM s i j) : mAt s n i = (s j).drop 16 := by
  obtain ⟨k, k1, k2, k3, k4⟩ := oN_some (s := s) (i := i) (m := n) (by omega)
  rw [mAt_one h, k4, oN_uniq (by omega) k j k1 h1 k2 h2 k3 h3]
theorem mAt_bad {s : Nat → List Nat} {n i : Nat} (h : (s i).length ≠ 52) : mAt s n i = List.replicate 36 0 := mAt_no (by rw [(cnt_bad h n).2]; decide)
/-- The first one of its name. -/
abbrev Fst (s : Nat → List Nat) (i : Nat) : Prop := (s i).length = 52 ∧ cntS s i i = 0
def lstS (s : Nat → List Nat) (i : Nat) : Nat → Nat
  | 0 => 0
  | m + 1 => if SM s i m then m else lstS s i m
abbrev Grp := Nat × Nat × Nat
def updG (n : Nat) : Option Grp → Grp
  | none => (1, n, n)
  | some g => (g.1 + 1, g.2.1, n)
/-- The groups, in the order in which their first ones stand: how many, the first one's place, the last one's. -/
def grpS (s : Nat → List Nat) : Nat → List (List Nat × Grp)
  | 0 => []
  | n + 1 => if (s n).length = 52 then mput ((s n).take 16) (updG n (mget ((s n).take 16) (grpS s n))) (grpS s n) else grpS s n
def fsts (s : Nat → List Nat) (n : Nat) : List Nat := (List.range n).filter fun i => decide (Fst s i)
theorem fsts_mem {s : Nat → List Nat} {n f : Nat} : f ∈ fsts s n ↔ f < n ∧ Fst s f := by simp [fsts]
theorem fsts_succ (s : Nat → List Nat) (n : Nat) : fsts s (n + 1) = fsts s n ++ if Fst s n then [n] else [] := by
  rw [fsts, List.range_succ, List.filter_append, ← fsts]
  congr 1
  by_cases h : Fst s n <;> simp [h]
theorem fst_ex (s : Nat → List Nat) : ∀ j, (s j).length = 52 → ∃ f, f ≤ j ∧ Fst s f ∧ SM s f j := fun j => by
  induction j using Nat.strongRecOn with
  | ind j ih =>
    intro h
    by_cases h0 : cntS s j j = 0
    · exact ⟨j, Nat.le_refl _, ⟨h, h0⟩, h, h, rfl⟩
    · obtain ⟨k, hk, h1⟩ := cnt_some h0
      obtain ⟨f, hf, h2, h3⟩ := ih k hk h1.2.1
      exact ⟨f, by omega, h2, h3.trans h1.symm⟩
theorem fst_apart {s : Nat → List Nat} {f g : Nat} (hf : Fst s f) (hg : Fst s g) (h : SM s f g) : f = g := by
  rcases Nat.lt_trichotomy f g with h1 | h1 | h1
  · exact absurd h.symm (cnt_none hg.2 f h1)
  · exact h1
  · exact absurd h (cnt_none hf.2 g h1)
theorem mget_map {K V : Type} [DecidableEq K] {key : Nat → K} {g : Nat → V} : ∀ {fs : List Nat} {f : Nat}, f ∈ fs → (∀ h ∈ fs, key h = key f → h = f) → mget (key f) (fs.map fun h => (key h, g h)) = some (g f)
  | [], _, h, _ => (nomatch h)
  | h :: r, f, hf, hu => by
    rw [List.map_cons, mget]
    split
    · rename_i e
      rw [hu h (List.mem_cons_self ..) e]
    · rename_i e
      rcases List.mem_cons.1 hf with rfl | hf
      · exact absurd rfl e
      · exact mget_map hf fun q hq => hu q (List.mem_cons_of_mem _ hq)
theorem mput_map {K V : Type} [DecidableEq K] {key : Nat → K} {g : Nat → V} (v : V) : ∀ {fs : List Nat} {f : Nat}, f ∈ fs → fs.Nodup → (∀ h ∈ fs, key h = key f → h = f) → mput (key f) v (fs.map fun h => (key h, g h)) = fs.map fun h => (key h, if h = f then v else g h)
  | [], _, h, _, _ => (nomatch h)
  | h :: r, f, hf, hn, hu => by
    obtain ⟨hn1, hn2⟩ := List.nodup_cons.1 hn
    rw [List.map_cons, List.map_cons, mput]
    split
    · rename_i e
      obtain rfl := hu h (List.mem_cons_self ..) e
      rw [if_pos rfl]
      congr 1
      exact List.map_congr_left fun q hq => by rw [if_neg (show ¬ q = h from fun e => hn1 (e ▸ hq))]
    · rename_i e
      rw [if_neg fun q => e (by rw [q])]
      rcases List.mem_cons.1 hf with rfl | hf
      · exact absurd rfl e
      · rw [mput_map v hf hn2 fun q hq => hu q (List.mem_cons_of_mem _ hq)]
abbrev grpAt (s : Nat → List Nat) (n f : Nat) : Grp := (cntS s f n, f, lstS s f n)
theorem fsts_nodup (s : Nat → List Nat) (n : Nat) : (fsts s n).Nodup := List.Pairwise.filter _ List.nodup_range
theorem grp_eq (s : Nat → List Nat) : ∀ n, grpS s n = (fsts s n).map fun f => ((s f).take 16, grpAt s n f)
  | 0 => rfl
  | n + 1 => by
    rw [grpS, fsts_succ, grp_eq s n]
    by_cases hl : (s n).length = 52
    · rw [if_pos hl]
      by_cases h0 : cntS s n n = 0
      · have hno : ∀ f ∈ fsts s n, ¬ SM s f n := fun f hf h => cnt_none h0 f (fsts_mem.1 hf).1 h.symm
        have hne : ∀ f ∈ fsts s n, (s f).take 16 ≠ (s n).take 16 := fun f hf e => hno f hf ⟨(fsts_mem.1 hf).2.1, hl, e⟩
        have hmg : mget ((s n).take 16) ((fsts s n).map fun f => ((s f).take 16, grpAt s n f)) = none := mget_none fun p hp => by
          obtain ⟨f, hf, rfl⟩ := List.mem_map.1 hp
          exact hne f hf
        rw [hmg, mput_new _ hmg, if_pos ⟨hl, h0⟩, List.map_append]
        congr 1
        · exact List.map_congr_left fun f hf => by
            simp only [grpAt, cntS, lstS, if_neg (hno f hf), Nat.add_zero]
        · simp only [List.map_cons, List.map_nil, updG, grpAt, cntS, lstS, h0]
          rw [if_pos ⟨hl, hl, rfl⟩, if_pos ⟨hl, hl, rfl⟩, Nat.zero_add]
      · rw [if_neg fun h => h0 h.2, List.append_nil]
        obtain ⟨f, hf1, hf2, hf3⟩ := fst_ex s n hl
        have hfn : f ≠ n := fun e => h0 (e ▸ hf2).2
        have hfm : f ∈ fsts s n := fsts_mem.2 ⟨by omega, hf2⟩
        have hu : ∀ h ∈ fsts s n, (s h).take 16 = (s f).take 16 → h = f := fun h hh e => fst_apart (fsts_mem.1 hh).2 hf2 ⟨(fsts_mem.1 hh).2.1, hf2.1, e⟩
        rw [← hf3.2.2, mget_map (key := fun h => (s h).take 16) hfm hu, mput_map (key := fun h => (s h).take 16) _ hfm (fsts_nodup s n) hu]
        refine List.map_congr_left fun h hh => ?_
        by_cases e : h = f
        · subst e
          rw [if_pos rfl]
          simp only [updG, grpAt, cntS, lstS, if_pos hf3]
        · rw [if_neg e]
          have hno : ¬ SM s h n := fun q => e (hu h hh (q.2.2.trans hf3.2.2.symm))
          simp only [grpAt, cntS, lstS, if_neg hno, Nat.add_zero]
    · have hno : ∀ f, ¬ SM s f n := fun f h => hl h.2.1
      rw [if_neg hl, if_neg fun h => hl h.1, List.append_nil]
      exact List.map_congr_left fun f _ => by simp only [grpAt, cntS, lstS, if_neg (hno f), Nat.add_zero]
theorem lst_at {s : Nat → List Nat} {i : Nat} : ∀ {m : Nat}, cntS s i m ≠ 0 → lstS s i m < m ∧ SM s i (lstS s i m) ∧ ∀ j, j < m → SM s i j → j ≤ lstS s i m
  | 0, h => absurd rfl h
  | m + 1, h => by
    rw [cntS] at h
    rw [lstS]
    split at h
    · rename_i h1
      rw [if_pos h1]
      exact ⟨by omega, h1, fun j hj _ => by omega⟩
    · rename_i h1
      rw [if_neg h1]
      obtain ⟨h2, h3, h4⟩ := lst_at (m := m) (by omega)
      refine ⟨by omega, h3, fun j hj h5 => ?_⟩
      have : j ≠ m := fun e => h1 (e ▸ h5)
      exact h4 j (by omega) h5
/-- What a group is. -/
theorem grp_at {s : Nat → List Nat} {n p : Nat} {x : List Nat} {g : Grp} (h : (grpS s n)[p]? = some (x, g)) : Fst s g.2.1 ∧ g.2.1 < n ∧ x = (s g.2.1).take 16 ∧ g.1 = cntS s g.2.1 n ∧ g.2.2 = lstS s g.2.1 n ∧ 1 ≤ g.1 := by
  rw [grp_eq, List.getElem?_map] at h
  obtain ⟨f, hf, e⟩ := Option.map_eq_some_iff.1 h
  obtain ⟨h1, h2⟩ := fsts_mem.1 (List.mem_of_getElem? hf)
  simp only [Prod.mk.injEq] at e
  obtain ⟨rfl, rfl⟩ := e
  refine ⟨h2, h1, rfl, rfl, rfl, ?_⟩
  have : cntS s f n ≠ 0 := fun q => cnt_none q f h1 ⟨h2.1, h2.1, rfl⟩
  show 1 ≤ cntS s f n
  omega
theorem grp_lst {s : Nat → List Nat} {n p : Nat} {x : List Nat} {g : Grp} (h : (grpS s n)[p]? = some (x, g)) : g.2.2 < n ∧ SM s g.2.1 g.2.2 := by
  obtain ⟨h1, h2, h3, h4, h5, h6⟩ := grp_at h
  have := lst_at (s := s) (i := g.2.1) (m := n) (by omega)
  rw [h5]
  exact ⟨this.1, this.2.1⟩
theorem grp_get {s : Nat → List Nat} {n : Nat} {x : List Nat} {g : Grp} (h : mget x (grpS s n) = some g) : ∃ p : Nat, (grpS s n)[p]? = some (x, g) := List.mem_iff_getElem?.1 (mget_mem h)
theorem grp_keys {s : Nat → List Nat} (n : Nat) (hs : ∀ i, i < n → ∀ j, (s i).getD j 0 < 256) : ∀ p ∈ grpS s n, BytesK 16 p.1 := fun p hp => by
  obtain ⟨q, hq⟩ := List.mem_iff_getElem?.1 hp
  obtain ⟨h1, h2, h3, _⟩ := grp_at (x := p.1) (g := p.2) hq
  rw [h3]
  exact ⟨by rw [List.length_take, h1.1]; rfl, take_lt (hs _ h2)⟩
theorem grp_uniq (s : Nat → List Nat) : ∀ n, Uniq (grpS s n)
  | 0 => .nil
  | n + 1 => by
    rw [grpS]
    split
    · exact (grp_uniq s n).put _ _
    · exact grp_uniq s n
theorem grp_len (s : Nat → List Nat) (n : Nat) : (grpS s n).length ≤ n := by
  rw [grp_eq, List.length_map, fsts]
  exact Nat.le_trans (List.length_filter_le ..) (by rw [List.length_range]; exact Nat.le_refl _)
theorem grp_yes {s : Nat → List Nat} {n : Nat} (h : (s n).length = 52) : grpS s (n + 1) = mput ((s n).take 16) (updG n (mget ((s n).take 16) (grpS s n))) (grpS s n) := if_pos h
theorem grp_no {s : Nat → List Nat} {n : Nat} (h : (s n).length ≠ 52) : grpS s (n + 1) = grpS s n := if_neg h
/-- Has request k's group come out? -/
def visB (s : Nat → List Nat) (l : List (List Nat × Grp)) (seen : List Nat) (k : Nat) : Bool := decide ((s k).length = 52) && seen.any fun p => decide ((l[p]?).map (·.1) = some ((s k).take 16))
def mV (s : Nat → List Nat) (n : Nat) (seen : List Nat) (k : Nat) : List Nat := if visB s (grpS s n) seen k = true then mAt s n k else List.replicate 36 0
theorem vis_push (s : Nat → List Nat) {l : List (List Nat × Grp)} (seen : List Nat) (k : Nat) {p : Nat} {x : List Nat} {g : Grp} (h : l[p]? = some (x, g)) : visB s l (seen ++ [p]) k = true ↔ visB s l seen k = true ∨ ((s k).length = 52 ∧ x = (s k).take 16) := by
  simp only [visB, List.any_append, List.any_cons, List.any_nil, Bool.or_false, h, Option.map_some, Option.some.injEq, Bool.and_eq_true, Bool.or_eq_true, decide_eq_true_eq]
  constructor
  · rintro ⟨h1, h2 | h2⟩
    · exact .inl ⟨h1, h2⟩
    · exact .inr ⟨h1, h2⟩
  · rintro (⟨h1, h2⟩ | ⟨h1, h2⟩)
    · exact ⟨h1, .inl h2⟩
    · exact ⟨h1, .inr h2⟩
theorem mV_nil (s : Nat → List Nat) (n k : Nat) : mV s n [] k = List.replicate 36 0 := if_neg (by simp [visB])
theorem grp_same {s : Nat → List Nat} {n p : Nat} {x : List Nat} {g : Grp} (h : (grpS s n)[p]? = some (x, g)) {k : Nat} (hk : (s k).length = 52) (e : x = (s k).take 16) : SM s g.2.1 k := by
  obtain ⟨h1, _, h3, _⟩ := grp_at h
  exact ⟨h1.1, hk, h3.symm.trans e⟩
theorem mV_skip {s : Nat → List Nat} {n p : Nat} {x : List Nat} {g : Grp} (h : (grpS s n)[p]? = some (x, g)) (hg : g.1 ≠ 2) (seen : List Nat) {k : Nat} (hk : k < n) : mV s n (seen ++ [p]) k = mV s n seen k := by
  unfold mV
  by_cases h1 : visB s (grpS s n) seen k = true
  · rw [if_pos h1, if_pos ((vis_push s seen k h).2 (.inl h1))]
  · rw [if_neg h1]
    split
    · rename_i h2
      rcases (vis_push s seen k h).1 h2 with h3 | ⟨h3, h4⟩
      · exact absurd h3 h1
      · have h5 := grp_same h h3 h4
        obtain ⟨_, _, _, h6, _⟩ := grp_at h
        refine mAt_no fun h7 => hg ?_
        rw [h6, cnt_cong h5]
        exact (cnt_two hk).2 h7
    · rfl
theorem mV_put {s : Nat → List Nat} {n p : Nat} {x : List Nat} {g : Grp} (h : (grpS s n)[p]? = some (x, g)) (hg : g.1 = 2) (seen : List Nat) {k : Nat} (hk : k < n) :
    mV s n (seen ++ [p]) k = if k = g.2.2 then (s g.2.1).drop 16 else if k = g.2.1 then (s g.2.2).drop 16 else mV s n seen k := by
  obtain ⟨g1, g2, g3, g4, g5, _⟩ := grp_at h
  obtain ⟨l1, l2⟩ := grp_lst h
  have c2 : cntS s g.2.1 n = 2 := g4.symm.trans hg
  have o1 : oN s g.2.1 n = 1 := (cnt_two g2).1 c2
  have o2 : oN s g.2.2 n = 1 := (cnt_two l1).1 ((cnt_cong l2 n).symm.trans c2)
  have hne : g.2.2 ≠ g.2.1 := fun e => by
    obtain ⟨j, j1, j2, j3, _⟩ := oN_some (s := s) (i := g.2.1) (m := n) (by omega)
    have j4 := (lst_at (s := s) (i := g.2.1) (m := n) (by omega)).2.2 j j1 j3
    rw [← g5, e] at j4
    exact cnt_none g1.2 j (by omega) j3
  have hx : ∀ j, SM s g.2.1 j → (s j).length = 52 ∧ x = (s j).take 16 := fun j hj => ⟨hj.2.1, g3.trans hj.2.2⟩
  by_cases k1 : k = g.2.2
  · subst k1
    rw [if_pos rfl, mV, if_pos ((vis_push s seen _ h).2 (.inr (hx _ l2)))]
    exact mAt_of o2 g2 (Ne.symm hne) l2.symm
  · rw [if_neg k1]
    by_cases k2 : k = g.2.1
    · subst k2
      rw [if_pos rfl, mV, if_pos ((vis_push s seen _ h).2 (.inr (hx _ ⟨g1.1, g1.1, rfl⟩)))]
      exact mAt_of o1 l1 hne l2
    · rw [if_neg k2]
      unfold mV
      by_cases h1 : visB s (grpS s n) seen k = true
      · rw [if_pos h1, if_pos ((vis_push s seen k h).2 (.inl h1))]
      · rw [if_neg h1]
        split
        · rename_i h2
          rcases (vis_push s seen k h).1 h2 with h3 | ⟨h3, h4⟩
          · exact absurd h3 h1
          · exact absurd (oN_uniq (by omega) k g.2.2 hk l1 k2 hne (grp_same h h3 h4) l2) k1
        · rfl
theorem mV_all {s : Nat → List Nat} {n : Nat} {seen : List Nat} (h : ∀ p, p < (grpS s n).length → p ∈ seen) {k : Nat} (hk : k < n) : mV s n seen k = mAt s n k := by
  unfold mV
  split
  · rfl
  · rename_i h1
    by_cases h2 : (s k).length = 52
    · obtain ⟨f, f1, f2, f3⟩ := fst_ex s k h2
      obtain ⟨p, hp⟩ := List.mem_iff_getElem?.1 (fsts_mem.2 ⟨Nat.lt_of_le_of_lt f1 hk, f2⟩)
      have hg : (grpS s n)[p]? = some ((s f).take 16, grpAt s n f) := by rw [grp_eq, List.getElem?_map, hp]; rfl
      refine absurd ?_ h1
      simp only [visB, Bool.and_eq_true, decide_eq_true_eq, List.any_eq_true]
      exact ⟨h2, p, h p (List.getElem?_eq_some_iff.1 hg).1, by rw [hg]; exact congrArg some f3.2.2⟩
    · exact (mAt_bad h2).symm
def cls (s : Nat → List Nat) (n : Nat) (c : Nat → Bool) : Nat → Nat
  | 0 => 0
  | m + 1 => cls s n c m + if Fst s m ∧ c (cntS s m n) = true then 1 else 0
def c1 (a : Nat) : Bool := decide (a = 1)
def c2 (a : Nat) : Bool := decide (a = 2)
def c3 (a : Nat) : Bool := decide (3 ≤ a)
theorem cls_count (s : Nat → List Nat) (n : Nat) (c : Nat → Bool) : ∀ m, cls s n c m = (fsts s m).countP fun f => c (cntS s f n)
  | 0 => rfl
  | m + 1 => by
    rw [cls, cls_count s n c m, fsts_succ, List.countP_append]
    congr 1
    by_cases h : Fst s m
    · rw [if_pos h]
      by_cases h2 : c (cntS s m n) = true
      · rw [if_pos ⟨h, h2⟩]; simp [h2]
      · rw [if_neg fun q => h2 q.2]; simp [h2]
    · rw [if_neg h, if_neg fun q => h q.1]; rfl
/-- How many of those that have come out are of a kind. -/
def cSn (l : List (List Nat × Grp)) (c : Nat → Bool) (seen : List Nat) : Nat := seen.countP fun p => c (((l[p]?).map (·.2.1)).getD 0)
theorem cSn_push {l : List (List Nat × Grp)} {p : Nat} {x : List Nat} {g : Grp} (h : l[p]? = some (x, g)) (c : Nat → Bool) (seen : List Nat) : cSn l c (seen ++ [p]) = cSn l c seen + if c g.1 = true then 1 else 0 := by
  rw [cSn, List.countP_append, ← cSn]
  congr 1
  rw [List.countP_cons, List.countP_nil, h]
  simp
theorem cSn_le (l : List (List Nat × Grp)) (c : Nat → Bool) (seen : List Nat) : cSn l c seen ≤ seen.length := List.countP_le_length
theorem seen_perm {seen : List Nat} {m : Nat} (hn : seen.Nodup) (h1 : ∀ p ∈ seen, p < m) (h2 : ∀ p, p < m → p ∈ seen) : seen.Perm (List.range m) := List.perm_iff_count.2 fun a => by
  rw [hn.count, List.nodup_range.count]
  by_cases h : a < m
  · rw [if_pos (h2 a h), if_pos (List.mem_range.2 h)]
  · rw [if_neg fun q => h (h1 a q), if_neg fun q => h (List.mem_range.1 q)]
theorem seen_len {seen : List Nat} {m : Nat} (hn : seen.Nodup) (h1 : ∀ p ∈ seen, p < m) : seen.length ≤ m := by
  induction m generalizing seen with
  | zero =>
    match seen, h1 with
    | [], _ => exact Nat.le_refl _
    | p :: r, h1 => exact absurd (h1 p (List.mem_cons_self ..)) (Nat.not_lt_zero _)
  | succ m ih =>
    have h2 := ih (hn.erase m) fun p hp => by
      obtain ⟨h3, h4⟩ := hn.mem_erase_iff.1 hp
      have := h1 p h4
      omega
    rw [List.length_erase] at h2
    split at h2 <;> omega
theorem range_at {α : Type} (l : List α) : (List.range l.length).map (fun p => l[p]?) = l.map some := by
  refine List.ext_getElem? fun i => ?_
  rcases Nat.lt_or_ge i l.length with h | h
  · simp [h]
  · simp [h]
theorem cSn_all {s : Nat → List Nat} {n : Nat} (c : Nat → Bool) {seen : List Nat} (hn : seen.Nodup) (h1 : ∀ p ∈ seen, p < (grpS s n).length) (h2 : ∀ p, p < (grpS s n).length → p ∈ seen) : cSn (grpS s n) c seen = cls s n c n := by
  rw [cSn, (seen_perm hn h1 h2).countP_eq, cls_count]
  have e1 : (List.range (grpS s n).length).countP (fun p => c ((((grpS s n)[p]?).map (·.2.1)).getD 0)) = ((List.range (grpS s n).length).map (fun p => (grpS s n)[p]?)).countP fun o => c ((o.map (·.2.1)).getD 0) := by
    rw [List.countP_map]; rfl
  rw [e1, range_at, List.countP_map, grp_eq, List.countP_map]
  rfl
/-- A group, as the program keeps it. -/
abbrev grpV (g : Grp) : Value := .agg #[iN g.1, iN g.2.1, iN g.2.2]
end Go.Proofs.Ythgfjeljfiadmaa
