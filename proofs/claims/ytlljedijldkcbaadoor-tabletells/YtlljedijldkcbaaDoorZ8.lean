/- Several texts in one: Package table: weights, the total, the number of a word. Package table: tables made; draws. Package table: draws. The document's table: what may be one, weights. The document's table: the total, the number of a word, draws. From a walk to a row: a law that returns true and writes nothing that was there; arrays of bytes that come in. Rows that came in and lie anywhere: elements of one or more cells, only read. A region that draws its order, where new cells are among what is made: the cells are apart. -/
import Derived.Test.YtlljedijldkcbaaDoorZ7
import Derived.Test.YtlljedijldkcbaaDoorRows
import Derived.WalkKit
import Derived.Test.YtlljedijldkcbaaDoorZ1
import Derived.Below
import Derived.ProofKit
import Derived.OpenShut
import Derived.ChangeOld
import Derived.Test.YtlljedijldkcbaaDoorZ6
import Derived.OrdersHeld
namespace Go.Proofs.YtlljedijldkcbaaDoor
open Go.RowKit
theorem kweight_any (g : Nat) (a b r m : Nat) (hk : TOk a b r m) (n : Int) (h1 : -9223372036854775808 ≤ n) (h2 : n < 9223372036854775808) (w0 : World) (hg : w0.heap[g]? = some (KB a b r m)) :
    Calls Tryd.prog 20 #[pT g, .int .i64 n] w0 fun e w' => ∃ v, e = .returned (.agg #[nv (wgZ a b r m n) v]) ∧ Below w0.heap.size w0 w' ∧ NatNew w0.heap.size w' (nv (wgZ a b r m n) v) (wgZ a b r m n) := by
  have k4 := hk.2.2.2.1
  rcases Int.lt_or_le n ((m : Int) - r) with h | h
  · rw [wg_lo h]; exact (kweight_lo g a b r m hk n h h1 w0 hg).mono fun _ _ ⟨v, e, t, q⟩ => ⟨v, e, turn_below hg t, q⟩
  · rcases Int.lt_or_le ((m : Int) + r) n with h' | h'
    · rw [wg_hi h']; exact (kweight_hi g a b r m hk n h' h2 w0 hg).mono fun _ _ ⟨v, e, t, q⟩ => ⟨v, e, turn_below hg t, q⟩
    · rcases Int.lt_or_le n m with h3 | h3
      · obtain ⟨d, rfl, hd⟩ : ∃ d : Nat, n = ((m - d : Nat) : Int) ∧ d ≤ r := ⟨(m - n).toNat, by omega, by omega⟩
        rw [wg_in h h', show (((m - d : Nat) : Int) - m).natAbs = d by omega]
        exact (kweight_dn g a b r m hk d hd w0 hg).mono fun _ _ ⟨v, e, t, q⟩ => ⟨v, e, turn_below hg t, q⟩
      · obtain ⟨d, rfl, hd⟩ : ∃ d : Nat, n = ((m + d : Nat) : Int) ∧ d ≤ r := ⟨(n - m).toNat, by omega, by omega⟩
        rw [wg_in h h', show (((m + d : Nat) : Int) - m).natAbs = d by omega]
        exact (kweight_up g a b r m hk d hd w0 hg).mono fun _ _ ⟨v, e, t, q⟩ => ⟨v, e, turn_below hg t, q⟩
set_option maxRecDepth 100000 in
theorem kedge_O (O : Blks) (hD : Distinct O) (g : Nat) (a b r m : Nat) (hk : TOk a b r m) (hK : KO O g a b r m) (w0 : World) (H : Has w0 O) :
    Calls Tryd.prog 18 #[pT g] w0 fun e w' => ∃ v, e = .returned (.agg #[nv (wgZ a b r m ((m - r : Nat) : Int)) v]) ∧ Below w0.heap.size w0 w' ∧ NatNew w0.heap.size w' (nv (wgZ a b r m ((m - r : Nat) : Int)) v) (wgZ a b r m ((m - r : Nat) : Int)) := by
  refine enter_fr Tryd.func18 rfl Tryd.ntmps18 (by simp) fun ac (FF : Fr 7 ac [(0, pT g)]) => ?_
  have MM : MemS (fun k => k < w0.heap.size ∧ ∀ x ∈ O, x.1 ≠ k) w0 w0 O [] := MemS.startN H hD
  have ⟨k1, k2, k3, k4, k5⟩ := hk
  refine wp_seq (rg_seq FF MM [o_] [0, 2] (fun Kt => ∀ br, Kt [(2, pT br), (0, pT g)] ((br, oC #[.slice none 0 0] 37) :: O)) (by kernel_rfl) (fun _ => by kernel_rfl) (fun br => fun ac1 wd1 FF1 MM1 => then_n ?_))
  refine wp_seq (wp_region_list ?_)
  refine rg_part 3 FF1 MM1 [o_, o_, u_ 1 (iN (m - r))] [2, 3, 5] (fun Kt => CallP Tryd.prog 11 [pT g] ((br, oC #[.slice none 0 0] 37) :: O) (iN (m - r)) ∧ Kt [(5, iN (m - r)), (3, pT g), (2, pT br)] ((br, oC #[.slice none 0 0] 37) :: O)) (by kernel_rfl) (fun _ => by kernel_rfl) (⟨⟨en_kleast, fun w Hw => kleast_any g a b r m hk w (hK.at (Has.tl Hw))⟩, fun ac2 wd2 FF2 MM2 => ?_⟩)
  refine st_callE [2, 6] FF2 (d := 6) (mk := fun v => .agg #[nv (wgZ a b r m ((m - r : Nat) : Int)) v]) en_kweight rfl rfl (kweight_any g a b r m hk ((m - r : Nat) : Int) (by omega) (by omega) _ (hK.at (Has.tl MM2.hasL))) rfl (by kernel_rfl) (by decide) fun ac4 wd4 lv3 (FF4 : Fr 7 ac4 [(6, aG #[nv (wgZ a b r m ((m - r : Nat) : Int)) lv3]), (2, pT br)]) hr5 => ?_
  have hfr6 : ∀ g, (nv (wgZ a b r m ((m - r : Nat) : Int)) lv3).ownBlock = some g → w0.heap.size ≤ g := fun g hg => Nat.le_trans MM2.size (hr5.2.2 g hg)
  obtain ⟨O7, MM80, hN9, hs10⟩ := MemS.addNats (K := [(br, oC #[.slice none 0 0] 37)]) (O := O) MM2 hr5.1 hr5.2 (Nats.nil O)
  have MM8 : MemS (fun k => k < w0.heap.size ∧ ∀ x ∈ O, x.1 ≠ k) w0 wd4 ((br, oC #[.slice none 0 0] 37) :: O7) [] := MM80
  have hK_11 := hK.mono hs10
  refine rg_part 1 FF4 MM8 [b_ 0] [2] (fun Kt => br = br ∧ (#[.slice none 0 0] : Array Value).size = 1 ∧ (#[nv (wgZ a b r m ((m - r : Nat) : Int)) lv3] : Array Value).size = 1 ∧ (#[nv (wgZ a b r m ((m - r : Nat) : Int)) lv3] : Array Value).all (·.oneCell') = true ∧ (0, 0).2 = 0 ∧ Kt [(2, pT br)] ((br, oC #[nv (wgZ a b r m ((m - r : Nat) : Int)) lv3] 37) :: O7)) (by kernel_rfl) (fun _ => by kernel_rfl) (⟨rfl, rfl, rfl, (by kernel_rfl), rfl, fun ac12 wd12 FF12 MM12 => ?_⟩)
  refine wpl_nil (then_n ?_)
  refine wp_ret ?_
  repeat first | refine then_ret ?_ | refine inb_ret ?_
  exact (retc FF12 MM12 (k := 1) (i := 0) (j := 0) Tryd.results18 rfl rfl Tryd.underlying37 rfl (by kernel_rfl) rfl ⟨lv3, rfl, MM12.belowN H (fun _ hx => List.mem_cons_of_mem _ (hs10 _ hx)), ⟨(hN9.get 0 rfl).at (Has.tl MM12.hasL), hfr6⟩⟩)
theorem kone_O {w : World} {g a b r m : Nat} (hg : w.heap[g]? = some (KB a b r m)) : ∃ O : Blks, Has w O ∧ Distinct O ∧ KO O g a b r m := ⟨[(g, KB a b r m)], one_has hg, ⟨fun y hy => (nomatch hy), trivial⟩, by simp [KO]⟩
theorem kedge_any (g : Nat) (a b r m : Nat) (hk : TOk a b r m) (w0 : World) (hg : w0.heap[g]? = some (KB a b r m)) : Calls Tryd.prog 18 #[pT g] w0 fun e w' => ∃ v, e = .returned (.agg #[nv (wgZ a b r m ((m - r : Nat) : Int)) v]) ∧ Below w0.heap.size w0 w' ∧ NatNew w0.heap.size w' (nv (wgZ a b r m ((m - r : Nat) : Int)) v) (wgZ a b r m ((m - r : Nat) : Int)) := by
  obtain ⟨O, h1, h2, h3⟩ := kone_O hg
  exact kedge_O O h2 g a b r m hk h3 w0 h1
set_option maxRecDepth 100000 in
theorem ktotal_O (O : Blks) (hD : Distinct O) (g : Nat) (a b r m : Nat) (hk : TOk a b r m) (hK : KO O g a b r m) (w0 : World) (H : Has w0 O) :
    Calls Tryd.prog 16 #[pT g] w0 fun e w' => ∃ v, e = .returned (.agg #[nv (toN a b r m (2 * r + 1)) v]) ∧ Below w0.heap.size w0 w' ∧ NatNew w0.heap.size w' (nv (toN a b r m (2 * r + 1)) v) (toN a b r m (2 * r + 1)) := by
  refine enter_fr Tryd.func16 rfl Tryd.ntmps16 (by simp) fun ac (FF : Fr 21 ac [(0, pT g)]) => ?_
  have MM : MemS (fun k => k < w0.heap.size ∧ ∀ x ∈ O, x.1 ≠ k) w0 w0 O [] := MemS.startN H hD
  have ⟨k1, k2, k3, k4, k5⟩ := hk
  refine wp_seq (rg_seq FF MM [o_] [0, 2] (fun Kt => ∀ br, Kt [(2, pT br), (0, pT g)] ((br, oC #[.slice none 0 0] 37) :: O)) (by kernel_rfl) (fun _ => by kernel_rfl) (fun br => fun ac1 wd1 FF1 MM1 => then_n ?_))
  refine wp_seq (rg_seq FF1 MM1 [o_] [2, 0, 3] (fun Kt => ∀ bs, Kt [(3, pT bs), (2, pT br), (0, pT g)] ((bs, oC #[.slice none 0 0] 37) :: (br, oC #[.slice none 0 0] 37) :: O)) (by kernel_rfl) (fun _ => by kernel_rfl) (fun bs => fun ac2 wd2 FF2 MM2 => then_n ?_))
  refine wp_seq ?_
  refine wp_seq (rg_seq FF2 MM2 [o_, u_ 1 (iN (2 * r + 1)), o_] [3, 2, 0, 6, 7] (fun Kt => CallP Tryd.prog 38 [pT g] ((bs, oC #[.slice none 0 0] 37) :: (br, oC #[.slice none 0 0] 37) :: O) (iN (2 * r + 1)) ∧ Kt [(7, iN 0), (6, iN (2 * r + 1)), (3, pT bs), (2, pT br), (0, pT g)] ((bs, oC #[.slice none 0 0] 37) :: (br, oC #[.slice none 0 0] 37) :: O)) (by kernel_rfl) (fun _ => by kernel_rfl) (⟨⟨en_kcount, fun w Hw => kcount_any g a b r m hk w (hK.at (Has.tl (Has.tl Hw)))⟩, fun ac3 wd3 FF3 MM3 => then_n ?_⟩))
  refine wp_for (fun a' w' => ∃ O1 : Blks, ∃ i : Nat, ∃ v : Value, i ≤ 2 * r + 1 ∧ (∀ x ∈ O, x ∈ O1) ∧ Nats O1 [((nv (toN a b r m i) v), toN a b r m i)] ∧ (∀ g, (nv (toN a b r m i) v).ownBlock = some g → w0.heap.size ≤ g) ∧ Fr 21 a' [(7, iN i), (6, iN (2 * r + 1)), (3, pT bs), (2, pT br), (0, pT g)] ∧ MemS (fun k => k < w0.heap.size ∧ ∀ x ∈ O, x.1 ≠ k) w0 w' ((bs, oC #[nv (toN a b r m i) v] 37) :: (br, oC #[.slice none 0 0] 37) :: O1) []) (fun a' _ => (2 * r + 1 - cnt 7 a').toNat) ⟨O, 0, (.slice none 0 0), Nat.zero_le _, fun _ h => h, .cons (natO_nil O) (.nil _), (fun g hg => by cases hg), FF3.pick [0, 1, 2, 3, 4], MM3⟩ ?_
  rintro ac4 wd4 ⟨O1, i, v, hi, hsb, hN1, hfr, FF4, MM4⟩
  have hK1 := hK.mono hsb
  have hc := cnt_of (FF4.get 0 rfl)
  refine rg_seq FF4 MM4 [o_] [7, 6, 3, 2, 0, 8] (fun Kt => Kt [(8, .bool (decide (i < (2 * r + 1)))), (7, iN i), (6, iN (2 * r + 1)), (3, pT bs), (2, pT br), (0, pT g)] ((bs, oC #[nv (toN a b r m i) v] 37) :: (br, oC #[.slice none 0 0] 37) :: O1)) (by kernel_rfl) (fun _ => by kernel_rfl) (fun ac5 wd5 FF5 MM5 => ?_)
  by_cases hlt : i < (2 * r + 1)
  · skip
    refine then_n (.inl ⟨(FF5.ev 0 rfl).trans (dec_t hlt), ?_⟩)
    have hi9 : i ≤ 8 := by omega
    refine wp_seq (rg_seq FF5 MM5 [o_, o_] [7, 6, 3, 2, 0, 4] (fun Kt => Kt [(4, iN i), (7, iN i), (6, iN (2 * r + 1)), (3, pT bs), (2, pT br), (0, pT g)] ((bs, oC #[nv (toN a b r m i) v] 37) :: (br, oC #[.slice none 0 0] 37) :: O1)) (by kernel_rfl) (fun _ => by kernel_rfl) (fun ac6 wd6 FF6 MM6 => then_n ?_))
    have h0w := MM6.size
    refine rg_pred FF6 MM6 [.inl (aG #[nv (toN a b r m i) v]), .inl (pT g), .inl (pT g), .inl (iN (m - r)), .inl (iN i), .inl (iN ((m - r) + i)), (.inr (fun v => .agg #[nv (wgZ a b r m ((m - r + i : Nat) : Int)) v], fun v w => NatNew wd6.heap.size w (nv (wgZ a b r m ((m - r + i : Nat) : Int)) v) (wgZ a b r m ((m - r + i : Nat) : Int))) : Spec), (.inr (fun v => .slice (pOf v) 2 2, fun v w => RowNs w (pOf v) [toN a b r m i, wgZ a b r m ((m - r + i : Nat) : Int)]) : Spec), (.inr (fun v => .agg #[nv (toN a b r m (i + 1)) v], fun v w => NatNew wd6.heap.size w (nv (toN a b r m (i + 1)) v) (toN a b r m (i + 1))) : Spec)] [some (b_ 0), some (o_), some (o_), some (u_ 1 (iN (m - r))), some (o_), some (o_), none, some (o_), none] [18, 4, 7, 6, 3, 2, 0] (fun lx wq => [(bs = bs ∧ (#[nv (toN a b r m i) v] : Array Value).size = 1 ∧ aG #[nv (toN a b r m i) v] = aG #[nv (toN a b r m i) v]), (pT g = pT g), (pT g = pT g), (CallP Tryd.prog 11 [pT g] ((bs, oC #[nv (toN a b r m i) v] 37) :: (br, oC #[.slice none 0 0] 37) :: O1) (iN (m - r)) ∧ iN (m - r) = iN (m - r)), (iN i = iN i), ((m - r) + i < 9223372036854775808 ∧ iN ((m - r) + i) = iN ((m - r) + i)), (CallQ Tryd.prog 20 [pT g, iN ((m - r) + i)] wq (.inr (fun v => .agg #[nv (wgZ a b r m ((m - r + i : Nat) : Int)) v], fun v w => NatNew wd6.heap.size w (nv (wgZ a b r m ((m - r + i : Nat) : Int)) v) (wgZ a b r m ((m - r + i : Nat) : Int))) : Spec)), (NatNew wd6.heap.size wq (nv (wgZ a b r m ((m - r + i : Nat) : Int)) (lx 6)) (wgZ a b r m ((m - r + i : Nat) : Int)) → (∀ w', Below wq.heap.size wq w' → w'.heap[wq.heap.size]? = some (oC #[nv (toN a b r m i) v, nv (wgZ a b r m ((m - r + i : Nat) : Int)) (lx 6)] 37) → ∃ y, Value.slice (some ⟨wq.heap.size, 0, none⟩) 2 2 = (fun v => .slice (pOf v) 2 2) y ∧ RowNs w' (pOf y) [toN a b r m i, wgZ a b r m ((m - r + i : Nat) : Int)])), (RowNs wq (pOf (lx 7)) [toN a b r m i, wgZ a b r m ((m - r + i : Nat) : Int)] → NatNew wd6.heap.size wq (nv (wgZ a b r m ((m - r + i : Nat) : Int)) (lx 6)) (wgZ a b r m ((m - r + i : Nat) : Int)) → CallQ Tryd.prog 31 [.slice (pOf (lx 7)) 2 2] wq (.inr (fun v => .agg #[nv (toN a b r m (i + 1)) v], fun v w => NatNew wd6.heap.size w (nv (toN a b r m (i + 1)) v) (toN a b r m (i + 1))) : Spec))]) (fun lx => [(18, aG #[nv (toN a b r m (i + 1)) (lx 8)]), (4, iN i), (7, iN i), (6, iN (2 * r + 1)), (3, pT bs), (2, pT br), (0, pT g)]) (by kernel_rfl) (by kernel_rfl) (by kernel_rfl) ⟨(fun v w w1 => natNew_st _ _ (nv _ v) w w1), (rowNs_st [toN a b r m i, wgZ a b r m ((m - r + i : Nat) : Int)]), (fun v w w1 => natNew_st _ _ (nv _ v) w w1), trivial⟩ (fun _ _ => by kernel_rfl) (fun _ => by kernel_rfl) (fun lx wq hB9 hH9 => ⟨(⟨rfl, rfl, rfl⟩), (rfl), (rfl), (⟨⟨en_kleast, fun w Hw => kleast_any g a b r m hk w (hK1.at (Has.tl (Has.tl Hw)))⟩, rfl⟩), (rfl), (⟨(by omega), rfl⟩), (⟨en_kweight, (kweight_any g a b r m hk ((m - r + i : Nat) : Int) (by omega) (by omega) wq (hK1.at (Has.tl (Has.tl hH9)))).mono fun _ _ ⟨v, h1, h2, h3⟩ => ⟨v, h1, h2, h3.mono hB9.size⟩⟩), (fun h6_0 => fun w' hb hh => ⟨.slice (some ⟨wq.heap.size, 0, none⟩) 2 2, rfl, _, nats2 hh (((hN1.get 0 rfl).at (Has.tl (Has.tl hH9))).keep hb) (h6_0.1.keep hb)⟩), (fun h7_0 h6_1 => ⟨en_nadd, (nadd2r (toN a b r m i) (wgZ a b r m ((m - r + i : Nat) : Int)) (b100 (by have := to_le hk i; have := wg_le hk ((m - r + i : Nat) : Int); omega) : (toN a b r m i) + (wgZ a b r m ((m - r + i : Nat) : Int)) < 18446744073709551616 ^ 100) wq h7_0).mono fun _ _ ⟨v, h1, h2, h3⟩ => ⟨v, h1, h2, h3.mono hB9.size⟩⟩), trivial⟩) (fun lx ac7 wd7 hx8 hB9 FF7 MM7 => ?_)
    obtain ⟨hl6, hl7, hl8, -⟩ := hx8
    generalize lx 6 = lv10 at *
    generalize lx 7 = lv11 at *
    generalize lx 8 = lv12 at *
    have hfrw : ∀ g, (nv (toN a b r m (i + 1)) lv12).ownBlock = some g → w0.heap.size ≤ g := fun g hg => Nat.le_trans h0w (hl8.2 g hg)
    obtain ⟨O13, MM140, hN15, hs16⟩ := MemS.addNatsT (K := [(bs, oC #[nv (toN a b r m i) v] 37), (br, oC #[.slice none 0 0] 37)]) (O := O1) MM6 MM7 rfl hl8 hN1
    have MM14 : MemS (fun k => k < w0.heap.size ∧ ∀ x ∈ O, x.1 ≠ k) w0 wd7 ((bs, oC #[nv (toN a b r m i) v] 37) :: (br, oC #[.slice none 0 0] 37) :: O13) [] := MM140
    have hK_17 := hK1.mono hs16
    have hz18 : ∀ x ∈ O, x ∈ O13 := fun x hx => hs16 x (hsb x hx)
    have hN9 : Nats O13 [((nv (toN a b r m (i + 1)) lv12), toN a b r m (i + 1))] := .cons (hN15.get 0 rfl) (.nil _)
    refine rg_part 1 FF7 MM14 [b_ 0] [4, 7, 6, 3, 2, 0] (fun Kt => bs = bs ∧ (#[nv (toN a b r m i) v] : Array Value).size = 1 ∧ (#[nv (toN a b r m (i + 1)) lv12] : Array Value).size = 1 ∧ (#[nv (toN a b r m (i + 1)) lv12] : Array Value).all (·.oneCell') = true ∧ (0, 0).2 = 0 ∧ Kt [(4, iN i), (7, iN i), (6, iN (2 * r + 1)), (3, pT bs), (2, pT br), (0, pT g)] ((bs, oC #[nv (toN a b r m (i + 1)) lv12] 37) :: (br, oC #[.slice none 0 0] 37) :: O13)) (by kernel_rfl) (fun _ => by kernel_rfl) (⟨rfl, rfl, rfl, (by kernel_rfl), rfl, fun ac19 wd19 FF19 MM19 => ?_⟩)
    refine wpl_nil ?_
    refine inb_n (then_n ?_)
    refine rg_seq FF19 MM19 [o_, o_] [4, 7, 6, 3, 2, 0] (fun Kt => i + 1 < 9223372036854775808 ∧ Kt [(7, iN (i + 1)), (4, iN i), (6, iN (2 * r + 1)), (3, pT bs), (2, pT br), (0, pT g)] ((bs, oC #[nv (toN a b r m (i + 1)) lv12] 37) :: (br, oC #[.slice none 0 0] 37) :: O13)) (by kernel_rfl) (fun _ => by kernel_rfl) (⟨(by omega), fun ac20 wd20 FF20 MM20 => ?_⟩)
    have hd := cnt_of (FF20.get 0 rfl)
    refine then_n ⟨⟨O13, i + 1, lv12, by omega, hz18, hN9, hfrw, FF20.pick [0, 2, 3, 4, 5], MM20⟩, ?_⟩
    rw [hc, hd]; omega
  · skip
    refine then_n (.inr ⟨(FF5.ev 0 rfl).trans (dec_f hlt), ?_⟩)
    obtain rfl : i = 2 * r + 1 := by omega
    refine then_n ?_
    refine wp_seq (rg_seq FF5 MM5 [b_ 0, b_ 1] [7, 6, 3, 2, 0] (fun Kt => bs = bs ∧ (#[nv (toN a b r m (2 * r + 1)) v] : Array Value).size = 1 ∧ br = br ∧ (#[.slice none 0 0] : Array Value).size = 1 ∧ (#[nv (toN a b r m (2 * r + 1)) v] : Array Value).size = 1 ∧ (#[nv (toN a b r m (2 * r + 1)) v] : Array Value).all (·.oneCell') = true ∧ (0, 0).2 = 0 ∧ Kt [(7, iN (2 * r + 1)), (6, iN (2 * r + 1)), (3, pT bs), (2, pT br), (0, pT g)] ((bs, oC #[nv (toN a b r m (2 * r + 1)) v] 37) :: (br, oC #[nv (toN a b r m (2 * r + 1)) v] 37) :: O1)) (by kernel_rfl) (fun _ => by kernel_rfl) (⟨rfl, rfl, rfl, rfl, rfl, (by kernel_rfl), rfl, fun ac21 wd21 FF21 MM21 => then_n ?_⟩))
    refine wp_ret ?_
    repeat first | refine then_ret ?_ | refine inb_ret ?_
    exact (retc FF21 MM21 (k := 1) (i := 1) (j := 3) Tryd.results16 rfl rfl Tryd.underlying37 rfl (by kernel_rfl) rfl ⟨v, rfl, MM21.belowN H (fun _ hx => List.mem_cons_of_mem _ (List.mem_cons_of_mem _ (hsb _ hx))), ⟨(hN1.get 0 rfl).at (Has.tl (Has.tl MM21.hasL)), hfr⟩⟩)
theorem ktotal_any (g : Nat) (a b r m : Nat) (hk : TOk a b r m) (w0 : World) (hg : w0.heap[g]? = some (KB a b r m)) : Calls Tryd.prog 16 #[pT g] w0 fun e w' => ∃ v, e = .returned (.agg #[nv (toN a b r m (2 * r + 1)) v]) ∧ Below w0.heap.size w0 w' ∧ NatNew w0.heap.size w' (nv (toN a b r m (2 * r + 1)) v) (toN a b r m (2 * r + 1)) := by
  obtain ⟨O, h1, h2, h3⟩ := kone_O hg
  exact ktotal_O O h2 g a b r m hk h3 w0 h1
set_option maxRecDepth 100000 in
theorem kat_O (O : Blks) (hD : Distinct O) (g : Nat) (a b r m : Nat) (hk : TOk a b r m) (hK : KO O g a b r m) (N : Nat) (y : Value) (hW : NatO O (nv N y) N) (hs : qsz N < 1000000) (w0 : World) (H : Has w0 O) :
    Calls Tryd.prog 21 #[pT g, .agg #[nv N y]] w0 fun e w' => e = .returned (.tuple #[iN (aN a b r m N), .bool (decide (N < toN a b r m (2 * r + 1)))]) ∧ Below w0.heap.size w0 w' := by
  refine enter_fr Tryd.func21 rfl Tryd.ntmps21 (by simp) fun ac (FF : Fr 30 ac [(0, pT g), (1, aG #[nv N y])]) => ?_
  have MM : MemS (fun k => k < w0.heap.size ∧ ∀ x ∈ O, x.1 ≠ k) w0 w0 O [] := MemS.startN H hD
  have ⟨k1, k2, k3, k4, k5⟩ := hk
  refine wp_seq (rg_seq FF MM [o_, o_, o_] [0, 3, 4, 5] (fun Kt => ∀ bx, Kt [(5, .bool false), (4, iN 0), (3, pT bx), (0, pT g)] ((bx, oC #[nv N y] 37) :: O)) (by kernel_rfl) (fun _ => by kernel_rfl) (fun bx => fun ac1 wd1 FF1 MM1 => then_n ?_))
  refine wp_seq (rg_seq FF1 MM1 [o_] [5, 4, 3, 0, 6] (fun Kt => ∀ bs, Kt [(6, pT bs), (5, .bool false), (4, iN 0), (3, pT bx), (0, pT g)] ((bs, oC #[.slice none 0 0] 37) :: (bx, oC #[nv N y] 37) :: O)) (by kernel_rfl) (fun _ => by kernel_rfl) (fun bs => fun ac2 wd2 FF2 MM2 => then_n ?_))
  refine wp_seq ?_
  refine wp_seq (rg_seq FF2 MM2 [o_, u_ 1 (iN (2 * r + 1)), o_] [6, 5, 4, 3, 0, 10, 11] (fun Kt => CallP Tryd.prog 38 [pT g] ((bs, oC #[.slice none 0 0] 37) :: (bx, oC #[nv N y] 37) :: O) (iN (2 * r + 1)) ∧ Kt [(11, iN 0), (10, iN (2 * r + 1)), (6, pT bs), (5, .bool false), (4, iN 0), (3, pT bx), (0, pT g)] ((bs, oC #[.slice none 0 0] 37) :: (bx, oC #[nv N y] 37) :: O)) (by kernel_rfl) (fun _ => by kernel_rfl) (⟨⟨en_kcount, fun w Hw => kcount_any g a b r m hk w (hK.at (Has.tl (Has.tl Hw)))⟩, fun ac3 wd3 FF3 MM3 => then_n ?_⟩))
  refine wp_for (fun a' w' => ∃ O1 : Blks, ∃ i : Nat, ∃ v : Value, i ≤ 2 * r + 1 ∧ (∀ x ∈ O, x ∈ O1) ∧ Nats O1 [((nv (toN a b r m i) v), toN a b r m i)] ∧ (∀ g, (nv (toN a b r m i) v).ownBlock = some g → w0.heap.size ≤ g) ∧ toN a b r m i ≤ N ∧ Fr 30 a' [(11, iN i), (10, iN (2 * r + 1)), (6, pT bs), (3, pT bx), (0, pT g)] ∧ MemS (fun k => k < w0.heap.size ∧ ∀ x ∈ O, x.1 ≠ k) w0 w' ((bs, oC #[nv (toN a b r m i) v] 37) :: (bx, oC #[nv N y] 37) :: O1) []) (fun a' _ => (2 * r + 1 - cnt 11 a').toNat) ⟨O, 0, (.slice none 0 0), Nat.zero_le _, fun _ h => h, .cons (natO_nil O) (.nil _), (fun g hg => by cases hg), Nat.zero_le _, FF3.pick [0, 1, 2, 5, 6], MM3⟩ ?_
  rintro ac4 wd4 ⟨O1, i, v, hi, hsb, hN1, hfr, hle, FF4, MM4⟩
  have hK1 := hK.mono hsb
  have hN2 : Nats O1 [((nv (toN a b r m i) v), toN a b r m i), ((nv N y), N)] := .cons (hN1.get 0 rfl) (.cons (hW.mono hsb) (.nil _))
  have hc := cnt_of (FF4.get 0 rfl)
  refine rg_seq FF4 MM4 [o_] [11, 10, 6, 3, 0, 12] (fun Kt => Kt [(12, .bool (decide (i < (2 * r + 1)))), (11, iN i), (10, iN (2 * r + 1)), (6, pT bs), (3, pT bx), (0, pT g)] ((bs, oC #[nv (toN a b r m i) v] 37) :: (bx, oC #[nv N y] 37) :: O1)) (by kernel_rfl) (fun _ => by kernel_rfl) (fun ac5 wd5 FF5 MM5 => ?_)
  by_cases hlt : i < (2 * r + 1)
  · skip
    refine then_n (.inl ⟨(FF5.ev 0 rfl).trans (dec_t hlt), ?_⟩)
    have hi9 : i ≤ 8 := by omega
    refine wp_seq (rg_seq FF5 MM5 [o_, o_] [11, 10, 6, 3, 0, 7] (fun Kt => Kt [(7, iN i), (11, iN i), (10, iN (2 * r + 1)), (6, pT bs), (3, pT bx), (0, pT g)] ((bs, oC #[nv (toN a b r m i) v] 37) :: (bx, oC #[nv N y] 37) :: O1)) (by kernel_rfl) (fun _ => by kernel_rfl) (fun ac6 wd6 FF6 MM6 => then_n ?_))
    refine wp_seq (rg_seq FF6 MM6 [o_, u_ 1 (iN (m - r)), o_, o_, o_] [7, 11, 10, 6, 3, 0, 8] (fun Kt => CallP Tryd.prog 11 [pT g] ((bs, oC #[nv (toN a b r m i) v] 37) :: (bx, oC #[nv N y] 37) :: O1) (iN (m - r)) ∧ (m - r) + i < 9223372036854775808 ∧ Kt [(8, iN ((m - r) + i)), (7, iN i), (11, iN i), (10, iN (2 * r + 1)), (6, pT bs), (3, pT bx), (0, pT g)] ((bs, oC #[nv (toN a b r m i) v] 37) :: (bx, oC #[nv N y] 37) :: O1)) (by kernel_rfl) (fun _ => by kernel_rfl) (⟨⟨en_kleast, fun w Hw => kleast_any g a b r m hk w (hK1.at (Has.tl (Has.tl Hw)))⟩, (by omega), fun ac7 wd7 FF7 MM7 => then_n ?_⟩))
    have h0w := MM7.size
    refine wp_seq (rg_pred FF7 MM7 [.inl (aG #[nv (toN a b r m i) v]), .inl (pT g), .inl (iN ((m - r) + i)), (.inr (fun v => .agg #[nv (wgZ a b r m ((m - r + i : Nat) : Int)) v], fun v w => NatNew wd7.heap.size w (nv (wgZ a b r m ((m - r + i : Nat) : Int)) v) (wgZ a b r m ((m - r + i : Nat) : Int))) : Spec), (.inr (fun v => .slice (pOf v) 2 2, fun v w => RowNs w (pOf v) [toN a b r m i, wgZ a b r m ((m - r + i : Nat) : Int)]) : Spec), (.inr (fun v => .agg #[nv (toN a b r m (i + 1)) v], fun v w => NatNew wd7.heap.size w (nv (toN a b r m (i + 1)) v) (toN a b r m (i + 1))) : Spec)] [some (b_ 0), some (o_), some (o_), none, some (o_), none] [23, 8, 7, 11, 10, 6, 3, 0] (fun lx wq => [(bs = bs ∧ (#[nv (toN a b r m i) v] : Array Value).size = 1 ∧ aG #[nv (toN a b r m i) v] = aG #[nv (toN a b r m i) v]), (pT g = pT g), (iN ((m - r) + i) = iN ((m - r) + i)), (CallQ Tryd.prog 20 [pT g, iN ((m - r) + i)] wq (.inr (fun v => .agg #[nv (wgZ a b r m ((m - r + i : Nat) : Int)) v], fun v w => NatNew wd7.heap.size w (nv (wgZ a b r m ((m - r + i : Nat) : Int)) v) (wgZ a b r m ((m - r + i : Nat) : Int))) : Spec)), (NatNew wd7.heap.size wq (nv (wgZ a b r m ((m - r + i : Nat) : Int)) (lx 3)) (wgZ a b r m ((m - r + i : Nat) : Int)) → (∀ w', Below wq.heap.size wq w' → w'.heap[wq.heap.size]? = some (oC #[nv (toN a b r m i) v, nv (wgZ a b r m ((m - r + i : Nat) : Int)) (lx 3)] 37) → ∃ y, Value.slice (some ⟨wq.heap.size, 0, none⟩) 2 2 = (fun v => .slice (pOf v) 2 2) y ∧ RowNs w' (pOf y) [toN a b r m i, wgZ a b r m ((m - r + i : Nat) : Int)])), (RowNs wq (pOf (lx 4)) [toN a b r m i, wgZ a b r m ((m - r + i : Nat) : Int)] → NatNew wd7.heap.size wq (nv (wgZ a b r m ((m - r + i : Nat) : Int)) (lx 3)) (wgZ a b r m ((m - r + i : Nat) : Int)) → CallQ Tryd.prog 31 [.slice (pOf (lx 4)) 2 2] wq (.inr (fun v => .agg #[nv (toN a b r m (i + 1)) v], fun v w => NatNew wd7.heap.size w (nv (toN a b r m (i + 1)) v) (toN a b r m (i + 1))) : Spec))]) (fun lx => [(23, aG #[nv (toN a b r m (i + 1)) (lx 5)]), (8, iN ((m - r) + i)), (7, iN i), (11, iN i), (10, iN (2 * r + 1)), (6, pT bs), (3, pT bx), (0, pT g)]) (by kernel_rfl) (by kernel_rfl) (by kernel_rfl) ⟨(fun v w w1 => natNew_st _ _ (nv _ v) w w1), (rowNs_st [toN a b r m i, wgZ a b r m ((m - r + i : Nat) : Int)]), (fun v w w1 => natNew_st _ _ (nv _ v) w w1), trivial⟩ (fun _ _ => by kernel_rfl) (fun _ => by kernel_rfl) (fun lx wq hB9 hH9 => ⟨(⟨rfl, rfl, rfl⟩), (rfl), (rfl), (⟨en_kweight, (kweight_any g a b r m hk ((m - r + i : Nat) : Int) (by omega) (by omega) wq (hK1.at (Has.tl (Has.tl hH9)))).mono fun _ _ ⟨v, h1, h2, h3⟩ => ⟨v, h1, h2, h3.mono hB9.size⟩⟩), (fun h3_0 => fun w' hb hh => ⟨.slice (some ⟨wq.heap.size, 0, none⟩) 2 2, rfl, _, nats2 hh (((hN2.get 0 rfl).at (Has.tl (Has.tl hH9))).keep hb) (h3_0.1.keep hb)⟩), (fun h4_0 h3_1 => ⟨en_nadd, (nadd2r (toN a b r m i) (wgZ a b r m ((m - r + i : Nat) : Int)) (b100 (by have := to_le hk i; have := wg_le hk ((m - r + i : Nat) : Int); omega) : (toN a b r m i) + (wgZ a b r m ((m - r + i : Nat) : Int)) < 18446744073709551616 ^ 100) wq h4_0).mono fun _ _ ⟨v, h1, h2, h3⟩ => ⟨v, h1, h2, h3.mono hB9.size⟩⟩), trivial⟩) (fun lx ac8 wd8 hx9 hB10 FF8 MM8 => ?_))
    obtain ⟨hl3, hl4, hl5, -⟩ := hx9
    generalize lx 3 = lv11 at *
    generalize lx 4 = lv12 at *
    generalize lx 5 = lv13 at *
    have hfrw : ∀ g, (nv (toN a b r m (i + 1)) lv13).ownBlock = some g → w0.heap.size ≤ g := fun g hg => Nat.le_trans h0w (hl5.2 g hg)
    obtain ⟨O14, MM150, hN16, hs17⟩ := MemS.addNatsT (K := [(bs, oC #[nv (toN a b r m i) v] 37), (bx, oC #[nv N y] 37)]) (O := O1) MM7 MM8 rfl hl5 hN2
    have MM15 : MemS (fun k => k < w0.heap.size ∧ ∀ x ∈ O, x.1 ≠ k) w0 wd8 ((bs, oC #[nv (toN a b r m i) v] 37) :: (bx, oC #[nv N y] 37) :: O14) [] := MM150
    have hK_18 := hK1.mono hs17
    have hz19 : ∀ x ∈ O, x ∈ O14 := fun x hx => hs17 x (hsb x hx)
    have hN9 : Nats O14 [((nv (toN a b r m (i + 1)) lv13), toN a b r m (i + 1))] := .cons (hN16.get 0 rfl) (.nil _)
    refine rg_part 1 FF8 MM15 [b_ 0] [8, 7, 11, 10, 6, 3, 0] (fun Kt => bs = bs ∧ (#[nv (toN a b r m i) v] : Array Value).size = 1 ∧ (#[nv (toN a b r m (i + 1)) lv13] : Array Value).size = 1 ∧ (#[nv (toN a b r m (i + 1)) lv13] : Array Value).all (·.oneCell') = true ∧ (0, 0).2 = 0 ∧ Kt [(8, iN ((m - r) + i)), (7, iN i), (11, iN i), (10, iN (2 * r + 1)), (6, pT bs), (3, pT bx), (0, pT g)] ((bs, oC #[nv (toN a b r m (i + 1)) lv13] 37) :: (bx, oC #[nv N y] 37) :: O14)) (by kernel_rfl) (fun _ => by kernel_rfl) (⟨rfl, rfl, rfl, (by kernel_rfl), rfl, fun ac20 wd20 FF20 MM20 => ?_⟩)
    refine wpl_nil (then_n ?_)
    by_cases h4 : N < toN a b r m (i + 1)
    · skip
      refine wp_seq (rg_seq FF20 MM20 [b_ 1, b_ 0, u_ 1 (.int .i64 (cmpN N (toN a b r m (i + 1)) : Int)), u_ 4 (.bool true)] [8, 7, 11, 10, 6, 3, 0, 27] (fun Kt => bx = bx ∧ (#[nv N y] : Array Value).size = 1 ∧ bs = bs ∧ (#[nv (toN a b r m (i + 1)) lv13] : Array Value).size = 1 ∧ CallP Tryd.prog 33 [aG #[nv N y], aG #[nv (toN a b r m (i + 1)) lv13]] ((bs, oC #[nv (toN a b r m (i + 1)) lv13] 37) :: (bx, oC #[nv N y] 37) :: O14) (.int .i64 (cmpN N (toN a b r m (i + 1)) : Int)) ∧ Value.bool (decide ((cmpN N (toN a b r m (i + 1))) < ((0 : Nat) : Int))) = .bool true ∧ Kt [(27, .bool true), (8, iN ((m - r) + i)), (7, iN i), (11, iN i), (10, iN (2 * r + 1)), (6, pT bs), (3, pT bx), (0, pT g)] ((bs, oC #[nv (toN a b r m (i + 1)) lv13] 37) :: (bx, oC #[nv N y] 37) :: O14)) (by kernel_rfl) (fun _ => by kernel_rfl) (⟨rfl, rfl, rfl, rfl, ⟨en_ncmp, fun w Hw => ncmp_any N y hs (toN a b r m (i + 1)) lv13 w ((hN16.get 2 rfl).at (Has.tl (Has.tl Hw))) ((hN16.get 0 rfl).at (Has.tl (Has.tl Hw)))⟩, (dec_t ((cmp_neg _ _).2 h4)), fun ac21 wd21 FF21 MM21 => then_n ?_⟩))
      refine wp_cond_true (FF21.ev 0 rfl) ?_
      refine wp_seq (rg_seq FF21 MM21 [o_, o_, o_] [8, 7, 11, 10, 6, 3, 0, 4, 5] (fun Kt => Kt [(5, .bool true), (4, iN ((m - r) + i)), (8, iN ((m - r) + i)), (7, iN i), (11, iN i), (10, iN (2 * r + 1)), (6, pT bs), (3, pT bx), (0, pT g)] ((bs, oC #[nv (toN a b r m (i + 1)) lv13] 37) :: (bx, oC #[nv N y] 37) :: O14)) (by kernel_rfl) (fun _ => by kernel_rfl) (fun ac22 wd22 FF22 MM22 => then_n ?_))
      refine wp_ret ?_
      repeat first | refine then_ret ?_ | refine inb_ret ?_
      exact (ret_tup2 FF22 1 0 Tryd.results21 rfl rfl (by rw [a_yes (by omega) hle h4, decide_eq_true (atw_lt (by omega) h4)]; exact ⟨rfl, MM22.belowN H (fun _ hx => List.mem_cons_of_mem _ (List.mem_cons_of_mem _ (hz19 _ hx)))⟩))
    · skip
      refine wp_seq (rg_seq FF20 MM20 [b_ 1, b_ 0, u_ 1 (.int .i64 (cmpN N (toN a b r m (i + 1)) : Int)), u_ 4 (.bool false)] [8, 7, 11, 10, 6, 3, 0, 27] (fun Kt => bx = bx ∧ (#[nv N y] : Array Value).size = 1 ∧ bs = bs ∧ (#[nv (toN a b r m (i + 1)) lv13] : Array Value).size = 1 ∧ CallP Tryd.prog 33 [aG #[nv N y], aG #[nv (toN a b r m (i + 1)) lv13]] ((bs, oC #[nv (toN a b r m (i + 1)) lv13] 37) :: (bx, oC #[nv N y] 37) :: O14) (.int .i64 (cmpN N (toN a b r m (i + 1)) : Int)) ∧ Value.bool (decide ((cmpN N (toN a b r m (i + 1))) < ((0 : Nat) : Int))) = .bool false ∧ Kt [(27, .bool false), (8, iN ((m - r) + i)), (7, iN i), (11, iN i), (10, iN (2 * r + 1)), (6, pT bs), (3, pT bx), (0, pT g)] ((bs, oC #[nv (toN a b r m (i + 1)) lv13] 37) :: (bx, oC #[nv N y] 37) :: O14)) (by kernel_rfl) (fun _ => by kernel_rfl) (⟨rfl, rfl, rfl, rfl, ⟨en_ncmp, fun w Hw => ncmp_any N y hs (toN a b r m (i + 1)) lv13 w ((hN16.get 2 rfl).at (Has.tl (Has.tl Hw))) ((hN16.get 0 rfl).at (Has.tl (Has.tl Hw)))⟩, (dec_f (fun h => h4 ((cmp_neg _ _).1 h))), fun ac23 wd23 FF23 MM23 => then_n ?_⟩))
      refine wp_cond_false (FF23.ev 0 rfl) ?_
      refine wp_skip ?_
      refine inb_n (then_n ?_)
      refine rg_seq FF23 MM23 [o_, o_] [8, 7, 11, 10, 6, 3, 0] (fun Kt => i + 1 < 9223372036854775808 ∧ Kt [(11, iN (i + 1)), (8, iN ((m - r) + i)), (7, iN i), (10, iN (2 * r + 1)), (6, pT bs), (3, pT bx), (0, pT g)] ((bs, oC #[nv (toN a b r m (i + 1)) lv13] 37) :: (bx, oC #[nv N y] 37) :: O14)) (by kernel_rfl) (fun _ => by kernel_rfl) (⟨(by omega), fun ac24 wd24 FF24 MM24 => ?_⟩)
      have hd := cnt_of (FF24.get 0 rfl)
      refine then_n ⟨⟨O14, i + 1, lv13, by omega, hz19, hN9, hfrw, Nat.le_of_not_lt h4, FF24.pick [0, 3, 4, 5, 6], MM24⟩, ?_⟩
      rw [hc, hd]; omega
  · skip
    refine then_n (.inr ⟨(FF5.ev 0 rfl).trans (dec_f hlt), ?_⟩)
    obtain rfl : i = 2 * r + 1 := by omega
    refine then_n ?_
    refine wp_seq (rg_seq FF5 MM5 [o_, o_] [11, 10, 6, 3, 0, 4, 5] (fun Kt => Kt [(5, .bool false), (4, iN 0), (11, iN (2 * r + 1)), (10, iN (2 * r + 1)), (6, pT bs), (3, pT bx), (0, pT g)] ((bs, oC #[nv (toN a b r m (2 * r + 1)) v] 37) :: (bx, oC #[nv N y] 37) :: O1)) (by kernel_rfl) (fun _ => by kernel_rfl) (fun ac25 wd25 FF25 MM25 => then_n ?_))
    refine wp_ret ?_
    repeat first | refine then_ret ?_ | refine inb_ret ?_
    exact (ret_tup2 FF25 1 0 Tryd.results21 rfl rfl (by rw [a_no hle, decide_eq_false (Nat.not_lt.2 hle)]; exact ⟨rfl, MM25.belowN H (fun _ hx => List.mem_cons_of_mem _ (List.mem_cons_of_mem _ (hsb _ hx)))⟩))
theorem katone_O {w : World} {g a b r m N : Nat} {y : Value} (hg : w.heap[g]? = some (KB a b r m)) (hN : NatIn w (nv N y) N) : ∃ O : Blks, Has w O ∧ Distinct O ∧ KO O g a b r m ∧ NatO O (nv N y) N := by
  obtain ⟨O, h1, h2, h3, h4⟩ := nats_O [(nv N y, N)] (fun x hx => by simp at hx; subst hx; exact hN) [(g, KB a b r m)] (one_has hg) (by simp)
  exact ⟨O, h1, distinct_of h2, h4 _ (by simp), h3.get 0 rfl⟩
theorem kat_any (g : Nat) (a b r m : Nat) (hk : TOk a b r m) (N : Nat) (y : Value) (hs : qsz N < 1000000) (w0 : World) (hg : w0.heap[g]? = some (KB a b r m)) (hN : NatIn w0 (nv N y) N) : Calls Tryd.prog 21 #[pT g, .agg #[nv N y]] w0 fun e w' => e = .returned (.tuple #[iN (aN a b r m N), .bool (decide (N < toN a b r m (2 * r + 1)))]) ∧ Below w0.heap.size w0 w' := by
  obtain ⟨O, h1, h2, h3, h4⟩ := katone_O hg hN
  exact kat_O O h2 g a b r m hk h3 N y h4 hs w0 h1
end Go.Proofs.YtlljedijldkcbaaDoor
namespace Go.Proofs.YtlljedijldkcbaaDoor
open Go.RowKit
set_option maxRecDepth 100000 in
theorem kratio_yes (p q : Int) (h : 1 ≤ q ∧ q < p ∧ p ≤ 16) (_p1 : -9223372036854775808 ≤ p) (_p2 : p < 9223372036854775808) (_q1 : -9223372036854775808 ≤ q) (_q2 : q < 9223372036854775808) (w0 : World) :
    Calls Tryd.prog 56 #[.int .i64 p, .int .i64 q] w0 fun e w' => e = .returned (.bool true) ∧ Below w0.heap.size w0 w' := by
  refine enter_fr Tryd.func56 rfl Tryd.ntmps56 (by simp) fun ac (FF : Fr 16 ac [(0, .int .i64 (p : Int)), (1, .int .i64 (q : Int))]) => ?_
  have MM := MemS.start w0
  obtain ⟨h1, h2, h3⟩ := h
  refine wp_seq (rg_seq FF MM [o_] [0, 1, 4] (fun Kt => Kt [(4, .bool false), (0, .int .i64 (p : Int)), (1, .int .i64 (q : Int))] []) (by kernel_rfl) (fun _ => by kernel_rfl) (fun ac1 wd1 FF1 MM1 => then_n ?_))
  refine wp_seq (rg_seq FF1 MM1 [o_, w_ 6, o_, o_, o_, w_ 6, o_, o_, o_, w_ 6, o_, o_] [4] (fun Kt => q ≥ ((1 : Nat) : Int) ∧ q < p ∧ p ≤ ((16 : Nat) : Int) ∧ Kt [(4, .bool true)] []) (by kernel_rfl) (fun _ => by kernel_rfl) (⟨(by omega), (by omega), (by omega), fun ac2 wd2 FF2 MM2 => then_n ?_⟩))
  refine wp_ret ?_
  repeat first | refine then_ret ?_ | refine inb_ret ?_
  exact (ret_fr FF2 0 Tryd.results56 rfl ⟨rfl, MM2.below⟩)
set_option maxRecDepth 100000 in
theorem kratio_no (p q : Int) (h : ¬ (1 ≤ q ∧ q < p ∧ p ≤ 16)) (_p1 : -9223372036854775808 ≤ p) (_p2 : p < 9223372036854775808) (_q1 : -9223372036854775808 ≤ q) (_q2 : q < 9223372036854775808) (w0 : World) :
    Calls Tryd.prog 56 #[.int .i64 p, .int .i64 q] w0 fun e w' => e = .returned (.bool false) ∧ Below w0.heap.size w0 w' := by
  refine enter_fr Tryd.func56 rfl Tryd.ntmps56 (by simp) fun ac (FF : Fr 16 ac [(0, .int .i64 (p : Int)), (1, .int .i64 (q : Int))]) => ?_
  have MM := MemS.start w0
  refine wp_seq (rg_seq FF MM [o_] [0, 1, 4] (fun Kt => Kt [(4, .bool false), (0, .int .i64 (p : Int)), (1, .int .i64 (q : Int))] []) (by kernel_rfl) (fun _ => by kernel_rfl) (fun ac1 wd1 FF1 MM1 => then_n ?_))
  by_cases c0 : 1 ≤ q
  · skip
    by_cases c1 : q < p
    · skip
      by_cases c2 : p ≤ 16
      · skip
        exact (h ⟨by omega, by omega, by omega⟩).elim
      · skip
        refine wp_seq (rg_seq FF1 MM1 [o_, w_ 6, o_, o_, o_, w_ 6, o_, o_, o_, u_ 4 (.bool false), o_, o_] [4] (fun Kt => q ≥ ((1 : Nat) : Int) ∧ q < p ∧ Value.bool (decide (p ≤ ((16 : Nat) : Int))) = .bool false ∧ Kt [(4, .bool false)] []) (by kernel_rfl) (fun _ => by kernel_rfl) (⟨(by omega), (by omega), (dec_f (by omega)), fun ac2 wd2 FF2 MM2 => then_n ?_⟩))
        refine wp_ret ?_
        repeat first | refine then_ret ?_ | refine inb_ret ?_
        exact (ret_fr FF2 0 Tryd.results56 rfl ⟨rfl, MM2.below⟩)
    · skip
      refine wp_seq (rg_seq FF1 MM1 [o_, w_ 6, o_, o_, o_, u_ 4 (.bool false), o_, o_, o_, o_, o_, o_] [4] (fun Kt => q ≥ ((1 : Nat) : Int) ∧ Value.bool (decide (q < p)) = .bool false ∧ Kt [(4, .bool false)] []) (by kernel_rfl) (fun _ => by kernel_rfl) (⟨(by omega), (dec_f (by omega)), fun ac3 wd3 FF3 MM3 => then_n ?_⟩))
      refine wp_ret ?_
      repeat first | refine then_ret ?_ | refine inb_ret ?_
      exact (ret_fr FF3 0 Tryd.results56 rfl ⟨rfl, MM3.below⟩)
  · skip
    refine wp_seq (rg_seq FF1 MM1 [o_, u_ 4 (.bool false), o_, o_, o_, o_, o_, o_, o_, o_, o_, o_] [4] (fun Kt => Value.bool (decide (q ≥ ((1 : Nat) : Int))) = .bool false ∧ Kt [(4, .bool false)] []) (by kernel_rfl) (fun _ => by kernel_rfl) (⟨(dec_f (by omega)), fun ac4 wd4 FF4 MM4 => then_n ?_⟩))
    refine wp_ret ?_
    repeat first | refine then_ret ?_ | refine inb_ret ?_
    exact (ret_fr FF4 0 Tryd.results56 rfl ⟨rfl, MM4.below⟩)
set_option maxRecDepth 100000 in
theorem kspan_yes (p q : Int) (h : 0 ≤ p ∧ p ≤ q ∧ q + p ≤ 8) (_p1 : -9223372036854775808 ≤ p) (_p2 : p < 9223372036854775808) (_q1 : -9223372036854775808 ≤ q) (_q2 : q < 9223372036854775808) (w0 : World) :
    Calls Tryd.prog 57 #[.int .i64 p, .int .i64 q] w0 fun e w' => e = .returned (.bool true) ∧ Below w0.heap.size w0 w' := by
  refine enter_fr Tryd.func57 rfl Tryd.ntmps57 (by simp) fun ac (FF : Fr 18 ac [(0, .int .i64 (p : Int)), (1, .int .i64 (q : Int))]) => ?_
  have MM := MemS.start w0
  obtain ⟨h1, h2, h3⟩ := h
  refine wp_seq (rg_seq FF MM [o_] [0, 1, 4] (fun Kt => Kt [(4, .bool false), (0, .int .i64 (p : Int)), (1, .int .i64 (q : Int))] []) (by kernel_rfl) (fun _ => by kernel_rfl) (fun ac1 wd1 FF1 MM1 => then_n ?_))
  refine wp_seq (rg_seq FF1 MM1 [o_, w_ 6, o_, o_, o_, w_ 6, o_, o_, o_, o_, u_ 4 (.int .i64 (8 - p : Int)), w_ 6, o_, o_] [4] (fun Kt => p ≥ ((0 : Nat) : Int) ∧ q ≥ p ∧ -(9223372036854775808 : Int) ≤ ((8 : Nat) : Int) - p ∧ ((8 : Nat) : Int) - p < (9223372036854775808 : Nat) ∧ Value.int .i64 (((8 : Nat) : Int) - p : Int) = .int .i64 (8 - p : Int) ∧ q ≤ (8 - p) ∧ Kt [(4, .bool true)] []) (by kernel_rfl) (fun _ => by kernel_rfl) (⟨(by omega), (by omega), (by omega), (by omega), (vZ (by omega)), (by omega), fun ac2 wd2 FF2 MM2 => then_n ?_⟩))
  refine wp_ret ?_
  repeat first | refine then_ret ?_ | refine inb_ret ?_
  exact (ret_fr FF2 0 Tryd.results57 rfl ⟨rfl, MM2.below⟩)
set_option maxRecDepth 100000 in
theorem kspan_no (p q : Int) (h : ¬ (0 ≤ p ∧ p ≤ q ∧ q + p ≤ 8)) (_p1 : -9223372036854775808 ≤ p) (_p2 : p < 9223372036854775808) (_q1 : -9223372036854775808 ≤ q) (_q2 : q < 9223372036854775808) (w0 : World) :
    Calls Tryd.prog 57 #[.int .i64 p, .int .i64 q] w0 fun e w' => e = .returned (.bool false) ∧ Below w0.heap.size w0 w' := by
  refine enter_fr Tryd.func57 rfl Tryd.ntmps57 (by simp) fun ac (FF : Fr 18 ac [(0, .int .i64 (p : Int)), (1, .int .i64 (q : Int))]) => ?_
  have MM := MemS.start w0
  refine wp_seq (rg_seq FF MM [o_] [0, 1, 4] (fun Kt => Kt [(4, .bool false), (0, .int .i64 (p : Int)), (1, .int .i64 (q : Int))] []) (by kernel_rfl) (fun _ => by kernel_rfl) (fun ac1 wd1 FF1 MM1 => then_n ?_))
  by_cases c0 : 0 ≤ p
  · skip
    by_cases c1 : p ≤ q
    · skip
      by_cases c2 : q + p ≤ 8
      · skip
        exact (h ⟨by omega, by omega, by omega⟩).elim
      · skip
        refine wp_seq (rg_seq FF1 MM1 [o_, w_ 6, o_, o_, o_, w_ 6, o_, o_, o_, o_, u_ 4 (.int .i64 (8 - p : Int)), u_ 4 (.bool false), o_, o_] [4] (fun Kt => p ≥ ((0 : Nat) : Int) ∧ q ≥ p ∧ -(9223372036854775808 : Int) ≤ ((8 : Nat) : Int) - p ∧ ((8 : Nat) : Int) - p < (9223372036854775808 : Nat) ∧ Value.int .i64 (((8 : Nat) : Int) - p : Int) = .int .i64 (8 - p : Int) ∧ Value.bool (decide (q ≤ (8 - p))) = .bool false ∧ Kt [(4, .bool false)] []) (by kernel_rfl) (fun _ => by kernel_rfl) (⟨(by omega), (by omega), (by omega), (by omega), (vZ (by omega)), (dec_f (by omega)), fun ac2 wd2 FF2 MM2 => then_n ?_⟩))
        refine wp_ret ?_
        repeat first | refine then_ret ?_ | refine inb_ret ?_
        exact (ret_fr FF2 0 Tryd.results57 rfl ⟨rfl, MM2.below⟩)
    · skip
      refine wp_seq (rg_seq FF1 MM1 [o_, w_ 6, o_, o_, o_, u_ 4 (.bool false), o_, o_, o_, o_, o_, o_, o_, o_] [4] (fun Kt => p ≥ ((0 : Nat) : Int) ∧ Value.bool (decide (q ≥ p)) = .bool false ∧ Kt [(4, .bool false)] []) (by kernel_rfl) (fun _ => by kernel_rfl) (⟨(by omega), (dec_f (by omega)), fun ac3 wd3 FF3 MM3 => then_n ?_⟩))
      refine wp_ret ?_
      repeat first | refine then_ret ?_ | refine inb_ret ?_
      exact (ret_fr FF3 0 Tryd.results57 rfl ⟨rfl, MM3.below⟩)
  · skip
    refine wp_seq (rg_seq FF1 MM1 [o_, u_ 4 (.bool false), o_, o_, o_, o_, o_, o_, o_, o_, o_, o_, o_, o_] [4] (fun Kt => Value.bool (decide (p ≥ ((0 : Nat) : Int))) = .bool false ∧ Kt [(4, .bool false)] []) (by kernel_rfl) (fun _ => by kernel_rfl) (⟨(dec_f (by omega)), fun ac4 wd4 FF4 MM4 => then_n ?_⟩))
    refine wp_ret ?_
    repeat first | refine then_ret ?_ | refine inb_ret ?_
    exact (ret_fr FF4 0 Tryd.results57 rfl ⟨rfl, MM4.below⟩)
set_option maxRecDepth 100000 in
theorem knew_no (a b r m : Int) (h : ¬ TOz a b r m) (_a1 : -9223372036854775808 ≤ a) (_a2 : a < 9223372036854775808) (_b1 : -9223372036854775808 ≤ b) (_b2 : b < 9223372036854775808) (_r1 : -9223372036854775808 ≤ r) (_r2 : r < 9223372036854775808) (_m1 : -9223372036854775808 ≤ m) (_m2 : m < 9223372036854775808) (w0 : World) :
    Calls Tryd.prog 36 #[.int .i64 a, .int .i64 b, .int .i64 r, .int .i64 m] w0 fun e w' => e = .returned (.tuple #[.pointer none, iN 1]) ∧ Below w0.heap.size w0 w' := by
  refine enter_fr Tryd.func36 rfl Tryd.ntmps36 (by simp) fun ac (FF : Fr 26 ac [(0, .int .i64 (a : Int)), (1, .int .i64 (b : Int)), (2, .int .i64 (r : Int)), (3, .int .i64 (m : Int))]) => ?_
  have MM := MemS.start w0
  refine wp_seq (rg_seq FF MM [o_, o_] [0, 1, 2, 3, 8, 9] (fun Kt => Kt [(9, iN 0), (8, .pointer none), (0, .int .i64 (a : Int)), (1, .int .i64 (b : Int)), (2, .int .i64 (r : Int)), (3, .int .i64 (m : Int))] []) (by kernel_rfl) (fun _ => by kernel_rfl) (fun ac1 wd1 FF1 MM1 => then_n ?_))
  refine wp_seq ?_
  by_cases c0 : 1 ≤ b ∧ b < a ∧ a ≤ 16
  · skip
    refine wp_seq (rg_seq FF1 MM1 [o_, o_, t_ (.bool true), o_, o_, o_, o_, t_ (.bool false), o_, o_] [9, 8, 0, 1, 2, 3, 19] (fun Kt => CallP Tryd.prog 56 [.int .i64 (a : Int), .int .i64 (b : Int)] [] (.bool true) ∧ CallP Tryd.prog 57 [.int .i64 (r : Int), .int .i64 (m : Int)] [] (.bool false) ∧ Kt [(19, .bool true), (9, iN 0), (8, .pointer none), (0, .int .i64 (a : Int)), (1, .int .i64 (b : Int)), (2, .int .i64 (r : Int)), (3, .int .i64 (m : Int))] []) (by kernel_rfl) (fun _ => by kernel_rfl) (⟨(callP_of en_kratio (kratio_yes a b c0 (by omega) (by omega) (by omega) (by omega)) _), (callP_of en_kspan (kspan_no r m (fun s => h ⟨c0.1, c0.2.1, c0.2.2, s.1, s.2.1, s.2.2⟩) (by omega) (by omega) (by omega) (by omega)) _), fun ac2 wd2 FF2 MM2 => then_n ?_⟩))
    refine wp_cond_true (FF2.ev 0 rfl) ?_
    refine wp_seq (rg_seq FF2 MM2 [o_, o_] [9, 8, 0, 1, 2, 3] (fun Kt => Kt [(9, iN 1), (8, .pointer none), (0, .int .i64 (a : Int)), (1, .int .i64 (b : Int)), (2, .int .i64 (r : Int)), (3, .int .i64 (m : Int))] []) (by kernel_rfl) (fun _ => by kernel_rfl) (fun ac3 wd3 FF3 MM3 => then_n ?_))
    refine wp_ret ?_
    repeat first | refine then_ret ?_ | refine inb_ret ?_
    exact (ret_tup2 FF3 1 0 Tryd.results36 rfl rfl ⟨rfl, MM3.below⟩)
  · skip
    refine wp_seq (rg_seq FF1 MM1 [o_, o_, t_ (.bool false), o_, o_, o_, o_, o_, o_, o_] [9, 8, 0, 1, 2, 3, 19] (fun Kt => CallP Tryd.prog 56 [.int .i64 (a : Int), .int .i64 (b : Int)] [] (.bool false) ∧ Kt [(19, .bool true), (9, iN 0), (8, .pointer none), (0, .int .i64 (a : Int)), (1, .int .i64 (b : Int)), (2, .int .i64 (r : Int)), (3, .int .i64 (m : Int))] []) (by kernel_rfl) (fun _ => by kernel_rfl) (⟨(callP_of en_kratio (kratio_no a b c0 (by omega) (by omega) (by omega) (by omega)) _), fun ac4 wd4 FF4 MM4 => then_n ?_⟩))
    refine wp_cond_true (FF4.ev 0 rfl) ?_
    refine wp_seq (rg_seq FF4 MM4 [o_, o_] [9, 8, 0, 1, 2, 3] (fun Kt => Kt [(9, iN 1), (8, .pointer none), (0, .int .i64 (a : Int)), (1, .int .i64 (b : Int)), (2, .int .i64 (r : Int)), (3, .int .i64 (m : Int))] []) (by kernel_rfl) (fun _ => by kernel_rfl) (fun ac5 wd5 FF5 MM5 => then_n ?_))
    refine wp_ret ?_
    repeat first | refine then_ret ?_ | refine inb_ret ?_
    exact (ret_tup2 FF5 1 0 Tryd.results36 rfl rfl ⟨rfl, MM5.below⟩)
/-- A table that was made. -/
def NewK (a b r m : Nat) (w w' : World) (v : Value) : Prop := ∃ g, v = pT g ∧ Below w.heap.size w w' ∧ w.heap.size ≤ g ∧ w'.heap[g]? = some (KB a b r m)
set_option maxRecDepth 100000 in
theorem knew_yes (a b r m : Nat) (hk : TOk a b r m) (w0 : World) : Calls Tryd.prog 36 #[iN a, iN b, iN r, iN m] w0 fun e w' => ∃ v, e = .returned (.tuple #[v, iN 0]) ∧ NewK a b r m w0 w' v := by
  have ⟨k1, k2, k3, k4, k5⟩ := hk
  refine enter_fr Tryd.func36 rfl Tryd.ntmps36 (by simp) fun ac (FF : Fr 26 ac [(0, iN a), (1, iN b), (2, iN r), (3, iN m)]) => ?_
  have MM := MemS.start w0
  refine wp_seq (rg_seq FF MM [o_, o_] [0, 1, 2, 3, 8, 9] (fun Kt => Kt [(9, iN 0), (8, .pointer none), (0, iN a), (1, iN b), (2, iN r), (3, iN m)] []) (by kernel_rfl) (fun _ => by kernel_rfl) (fun ac1 wd1 FF1 MM1 => then_n ?_))
  refine wp_seq ?_
  refine wp_seq (rg_seq FF1 MM1 [o_, o_, t_ (.bool true), o_, o_, o_, o_, t_ (.bool true), o_, o_] [9, 8, 0, 1, 2, 3, 19] (fun Kt => CallP Tryd.prog 56 [iN a, iN b] [] (.bool true) ∧ CallP Tryd.prog 57 [iN r, iN m] [] (.bool true) ∧ Kt [(19, .bool false), (9, iN 0), (8, .pointer none), (0, iN a), (1, iN b), (2, iN r), (3, iN m)] []) (by kernel_rfl) (fun _ => by kernel_rfl) (⟨(callP_of en_kratio (kratio_yes ((a : Nat) : Int) ((b : Nat) : Int) ⟨by omega, by omega, by omega⟩ (by omega) (by omega) (by omega) (by omega)) _), (callP_of en_kspan (kspan_yes ((r : Nat) : Int) ((m : Nat) : Int) ⟨by omega, by omega, by omega⟩ (by omega) (by omega) (by omega) (by omega)) _), fun ac2 wd2 FF2 MM2 => then_n ?_⟩))
  refine wp_cond_false (FF2.ev 0 rfl) ?_
  refine wp_skip ?_
  refine then_n ?_
  refine wp_seq (rg_seq FF2 MM2 [o_, o_, o_, o_, o_, o_, o_, o_] [9, 8, 0, 1, 2, 3] (fun Kt => ∀ bt, Kt [(9, iN 0), (8, pT bt), (0, iN a), (1, iN b), (2, iN r), (3, iN m)] [(bt, oC #[iN a, iN b, iN r, iN m] 73)]) (by kernel_rfl) (fun _ => by kernel_rfl) (fun bt => fun ac3 wd3 FF3 MM3 => then_n ?_))
  refine wp_ret ?_
  repeat first | refine then_ret ?_ | refine inb_ret ?_
  exact (ret_tup2 FF3 1 0 Tryd.results36 rfl rfl ⟨_, rfl, bt, rfl, MM3.below, MM3.fresh 0 rfl, MM3.get 0 rfl⟩)
theorem en_lawOf : Enters Tryd.prog 9 := fun args w => by simp [go_sem]
theorem en_lawwakes : Enters Tryd.prog 8 := fun args w => by simp [go_sem]
theorem en_knat : Enters Tryd.prog 15 := fun args w => by simp [go_sem]
set_option maxRecDepth 100000 in
theorem kof_no (a b r m : Int) (h : ¬ TOz a b r m) (_a1 : -9223372036854775808 ≤ a) (_a2 : a < 9223372036854775808) (_b1 : -9223372036854775808 ≤ b) (_b2 : b < 9223372036854775808) (_r1 : -9223372036854775808 ≤ r) (_r2 : r < 9223372036854775808) (_m1 : -9223372036854775808 ≤ m) (_m2 : m < 9223372036854775808) (w0 : World) :
    Calls Tryd.prog 9 #[.agg #[.int .i64 a, .int .i64 b, .int .i64 r, .int .i64 m]] w0 fun e w' => e = .returned (.tuple #[.pointer none, iN 1]) ∧ Below w0.heap.size w0 w' := by
  refine enter_fr Tryd.func9 rfl Tryd.ntmps9 (by simp) fun ac (FF : Fr 15 ac [(0, aG #[.int .i64 (a : Int), .int .i64 (b : Int), .int .i64 (r : Int), .int .i64 (m : Int)])]) => ?_
  have MM := MemS.start w0
  refine wp_seq (rg_seq FF MM [o_, o_, o_] [1, 2, 3] (fun Kt => ∀ bq, Kt [(3, iN 0), (2, .pointer none), (1, pT bq)] [(bq, oC #[.int .i64 (a : Int), .int .i64 (b : Int), .int .i64 (r : Int), .int .i64 (m : Int)] 27)]) (by kernel_rfl) (fun _ => by kernel_rfl) (fun bq => fun ac1 wd1 FF1 MM1 => then_n ?_))
  refine wp_seq (rg_seq FF1 MM1 [o_, l_ 0 (.int .i64 (a : Int)), o_, l_ 0 (.int .i64 (b : Int)), o_, l_ 0 (.int .i64 (r : Int)), o_, l_ 0 (.int .i64 (m : Int)), t_ (.tuple #[.pointer none, iN 1]), o_, o_, o_, o_] [3, 2] (fun Kt => bq = bq ∧ (#[.int .i64 (a : Int), .int .i64 (b : Int), .int .i64 (r : Int), .int .i64 (m : Int)] : Array Value)[0]? = some (.int .i64 (a : Int)) ∧ bq = bq ∧ (#[.int .i64 (a : Int), .int .i64 (b : Int), .int .i64 (r : Int), .int .i64 (m : Int)] : Array Value)[1]? = some (.int .i64 (b : Int)) ∧ bq = bq ∧ (#[.int .i64 (a : Int), .int .i64 (b : Int), .int .i64 (r : Int), .int .i64 (m : Int)] : Array Value)[2]? = some (.int .i64 (r : Int)) ∧ bq = bq ∧ (#[.int .i64 (a : Int), .int .i64 (b : Int), .int .i64 (r : Int), .int .i64 (m : Int)] : Array Value)[3]? = some (.int .i64 (m : Int)) ∧ CallP Tryd.prog 36 [.int .i64 (a : Int), .int .i64 (b : Int), .int .i64 (r : Int), .int .i64 (m : Int)] [] (.tuple #[.pointer none, iN 1]) ∧ Kt [(3, iN 1), (2, .pointer none)] [(bq, oC #[.int .i64 (a : Int), .int .i64 (b : Int), .int .i64 (r : Int), .int .i64 (m : Int)] 27)]) (by kernel_rfl) (fun _ => by kernel_rfl) (⟨rfl, rfl, rfl, rfl, rfl, rfl, rfl, rfl, (callP_of en_knew (knew_no a b r m h (by omega) (by omega) (by omega) (by omega) (by omega) (by omega) (by omega) (by omega)) _), fun ac2 wd2 FF2 MM2 => then_n ?_⟩))
  refine wp_ret ?_
  repeat first | refine then_ret ?_ | refine inb_ret ?_
  exact (ret_tup2 FF2 1 0 Tryd.results9 rfl rfl ⟨rfl, MM2.below⟩)
set_option maxRecDepth 100000 in
theorem kof_yes (a b r m : Nat) (hk : TOk a b r m) (w0 : World) : Calls Tryd.prog 9 #[.agg #[iN a, iN b, iN r, iN m]] w0 fun e w' => ∃ v, e = .returned (.tuple #[v, iN 0]) ∧ NewK a b r m w0 w' v := by
  refine enter_fr Tryd.func9 rfl Tryd.ntmps9 (by simp) fun ac (FF : Fr 15 ac [(0, aG #[iN a, iN b, iN r, iN m])]) => ?_
  have MM := MemS.start w0
  refine wp_seq (rg_seq FF MM [o_, o_, o_] [1, 2, 3] (fun Kt => ∀ bq, Kt [(3, iN 0), (2, .pointer none), (1, pT bq)] [(bq, oC #[iN a, iN b, iN r, iN m] 27)]) (by kernel_rfl) (fun _ => by kernel_rfl) (fun bq => fun ac1 wd1 FF1 MM1 => then_n ?_))
  refine wp_seq (wp_region_list ?_)
  refine rg_part 8 FF1 MM1 [o_, l_ 0 (iN a), o_, l_ 0 (iN b), o_, l_ 0 (iN r), o_, l_ 0 (iN m)] [3, 2, 5, 7, 9, 11] (fun Kt => bq = bq ∧ (#[iN a, iN b, iN r, iN m] : Array Value)[0]? = some (iN a) ∧ bq = bq ∧ (#[iN a, iN b, iN r, iN m] : Array Value)[1]? = some (iN b) ∧ bq = bq ∧ (#[iN a, iN b, iN r, iN m] : Array Value)[2]? = some (iN r) ∧ bq = bq ∧ (#[iN a, iN b, iN r, iN m] : Array Value)[3]? = some (iN m) ∧ Kt [(11, iN m), (9, iN r), (7, iN b), (5, iN a), (3, iN 0), (2, .pointer none)] [(bq, oC #[iN a, iN b, iN r, iN m] 27)]) (by kernel_rfl) (fun _ => by kernel_rfl) (⟨rfl, rfl, rfl, rfl, rfl, rfl, rfl, rfl, fun ac2 wd2 FF2 MM2 => ?_⟩)
  refine st_callE [3, 2, 12] FF2 (d := 12) (mk := fun v => .tuple #[v, iN 0]) en_knew rfl rfl (knew_yes a b r m hk _) rfl (by kernel_rfl) (by decide) fun ac4 wd4 lv3 (FF4 : Fr 15 ac4 [(12, .tuple #[lv3, iN 0]), (3, iN 0), (2, .pointer none)]) hr5 => ?_
  obtain ⟨gk, rfl, hB_gk, hf_gk, hb_gk⟩ := hr5
  have MM6 := MM2.keep hB_gk
  have MM7 : MemS (fun k => k < w0.heap.size) w0 wd4 [(gk, oC #[iN a, iN b, iN r, iN m] 73), (bq, oC #[iN a, iN b, iN r, iN m] 27)] [] := MM2.addFresh MM6 hb_gk hf_gk
  refine rg_part 4 FF4 MM7 [o_, o_, o_, o_] [3, 2] (fun Kt => Kt [(3, iN 0), (2, pT gk)] [(gk, oC #[iN a, iN b, iN r, iN m] 73), (bq, oC #[iN a, iN b, iN r, iN m] 27)]) (by kernel_rfl) (fun _ => by kernel_rfl) (fun ac8 wd8 FF8 MM8 => ?_)
  refine wpl_nil (then_n ?_)
  refine wp_ret ?_
  repeat first | refine then_ret ?_ | refine inb_ret ?_
  exact (ret_tup2 FF8 1 0 Tryd.results9 rfl rfl ⟨_, rfl, gk, rfl, MM8.below, MM8.fresh 0 rfl, MM8.get 0 rfl⟩)
end Go.Proofs.YtlljedijldkcbaaDoor
namespace Go.Proofs.YtlljedijldkcbaaDoor
open Go.RowKit
theorem MemS.apartO {S : Nat → Prop} {w0 w : World} {K O : Blks} {R : List Row} {g : Nat} {ob : Obj} (M : MemS S w0 w (K ++ O) R) (i : Nat) (hi : K[i]? = some (g, ob)) : ∀ x ∈ O, x.1 ≠ g := fun x hx => by
  obtain ⟨j, hj⟩ := List.mem_iff_getElem?.1 hx
  have hl : i < K.length := by
    rcases Nat.lt_or_ge i K.length with h | h
    · exact h
    · rw [List.getElem?_eq_none h] at hi; cases hi
  exact M.apart (K.length + j) i x (g, ob) (by rw [List.getElem?_append_right (Nat.le_add_right _ _), Nat.add_sub_cancel_left]; exact hj) (by rw [List.getElem?_append_left hl]; exact hi) (by omega)
/-- What is drawn under all weights together. -/
def uN (a b r m k : Nat) (X : List Nat) : Nat × Nat × Nat := undN (toN a b r m (2 * r + 1)) (bsz (toN a b r m (2 * r + 1))) k X
/-- The number that is drawn. -/
def drN (a b r m k : Nat) (X : List Nat) : Nat := if (uN a b r m k X).2.1 = 0 then aN a b r m (uN a b r m k X).1 else 0
theorem tot_small {a b r m : Nat} (hk : TOk a b r m) : toN a b r m (2 * r + 1) < 1048576 := to_small hk (by have := hk.2.2.2.1; have := hk.2.2.2.2; omega)
theorem tot_b1 {a b r m : Nat} (hk : TOk a b r m) : 1 ≤ bsz (toN a b r m (2 * r + 1)) := bsz_pos (by have := to_pos hk; omega)
theorem tot_b2 {a b r m : Nat} (hk : TOk a b r m) : bsz (toN a b r m (2 * r + 1)) ≤ 20 := bsz_le (tot_small hk)
theorem tot_q {a b r m : Nat} (hk : TOk a b r m) : qsz (toN a b r m (2 * r + 1)) < 1000000 := qok (b100 (Nat.lt_trans (tot_small hk) (by decide)))
theorem un_q {a b r m k : Nat} {X : List Nat} (hk : TOk a b r m) : qsz (undN (toN a b r m (2 * r + 1)) (bsz (toN a b r m (2 * r + 1))) k X).1 < 1000000 := qok (Nat.lt_of_lt_of_le (und_lt (bsz_ok _).1 k X) (Nat.le_trans (Nat.pow_le_pow_right (by decide) (tot_b2 hk)) (by decide +kernel)))
set_option maxRecDepth 100000 in
theorem kdraw_O (gk g : Nat) (a b r m : Nat) (hk : TOk a b r m) (X : List Nat) (u : Nat) (hX : ∀ i, X.getD i 0 < 256) (hu : u < 4611686018427000000) (k : Nat) (hk1 : 1 ≤ k) (hk2 : k ≤ 16) (O : Blks) (hK : KO O gk a b r m) (w0 : World) (H : Has w0 ((g, TB X u) :: O)) (hD : Distinct ((g, TB X u) :: O)) :
    Calls Tryd.prog 26 #[pT gk, pT g, iN k] w0 fun e w' => e = .returned (.tuple #[iN (drN a b r m k X), iN ((uN a b r m k X).2.1)]) ∧ Turn g (TB (X.drop (uN a b r m k X).2.2) (u + (uN a b r m k X).2.2)) w0 w' := by
  have ⟨k1, k2, k3, k4, k5⟩ := hk
  refine enter_fr Tryd.func26 rfl Tryd.ntmps26 (by simp) fun ac (FF : Fr 30 ac [(0, pT gk), (1, pT g), (2, iN k)]) => ?_
  have MM : MemS (fun k => k < w0.heap.size ∧ ∀ x ∈ (g, oC #[sB X, iN u] 81) :: O, x.1 ≠ k) w0 w0 ((g, oC #[sB X, iN u] 81) :: O) [] := MemS.startN H hD
  refine wp_seq (rg_seq FF MM [o_, o_] [0, 1, 2, 6, 7] (fun Kt => Kt [(7, iN 0), (6, iN 0), (0, pT gk), (1, pT g), (2, iN k)] ((g, oC #[sB X, iN u] 81) :: O)) (by kernel_rfl) (fun _ => by kernel_rfl) (fun ac1 wd1 FF1 MM1 => then_n ?_))
  refine wp_seq (wp_region_list ?_)
  refine rg_part 2 FF1 MM1 [o_, o_] [7, 6, 0, 2, 13, 14] (fun Kt => Kt [(14, pT gk), (13, pT g), (7, iN 0), (6, iN 0), (0, pT gk), (2, iN k)] ((g, oC #[sB X, iN u] 81) :: O)) (by kernel_rfl) (fun _ => by kernel_rfl) (fun ac2 wd2 FF2 MM2 => ?_)
  refine st_callE [13, 7, 6, 0, 2, 15] FF2 (d := 15) (mk := fun v => .agg #[nv (toN a b r m (2 * r + 1)) v]) en_ktotal rfl rfl (ktotal_any gk a b r m hk _ (hK.at (Has.tl MM2.hasL))) rfl (by kernel_rfl) (by decide) fun ac4 wd4 lv3 (FF4 : Fr 30 ac4 [(15, aG #[nv (toN a b r m (2 * r + 1)) lv3]), (13, pT g), (7, iN 0), (6, iN 0), (0, pT gk), (2, iN k)]) hr5 => ?_
  have hfr6 : ∀ g, (nv (toN a b r m (2 * r + 1)) lv3).ownBlock = some g → w0.heap.size ≤ g := fun g hg => Nat.le_trans MM2.size (hr5.2.2 g hg)
  obtain ⟨O7, MM80, hN9, hs10⟩ := MemS.addNats (K := [(g, oC #[sB X, iN u] 81)]) (O := O) MM2 hr5.1 hr5.2 (Nats.nil O)
  have MM8 : MemS (fun k => k < w0.heap.size ∧ ∀ x ∈ (g, oC #[sB X, iN u] 81) :: O, x.1 ≠ k) w0 wd4 ((g, oC #[sB X, iN u] 81) :: O7) [] := MM80
  have hK_11 := hK.mono hs10
  refine rg_part 1 FF4 MM8 [o_] [15, 13, 7, 6, 0, 16] (fun Kt => Kt [(16, iN k), (15, aG #[nv (toN a b r m (2 * r + 1)) lv3]), (13, pT g), (7, iN 0), (6, iN 0), (0, pT gk)] ((g, oC #[sB X, iN u] 81) :: O7)) (by kernel_rfl) (fun _ => by kernel_rfl) (fun ac12 wd12 FF12 MM12 => ?_)
  refine st_callE [7, 6, 0, 17] FF12 (d := 17) (mk := fun v => .tuple #[.agg #[nv ((undN (toN a b r m (2 * r + 1)) (bsz (toN a b r m (2 * r + 1))) k X).1) v], iN ((undN (toN a b r m (2 * r + 1)) (bsz (toN a b r m (2 * r + 1))) k X).2.1)]) en_tunder rfl rfl (by have h0 := tunder_any g X u hX (by omega) (toN a b r m (2 * r + 1)) lv3 k (tot_b1 hk) (Nat.le_trans (tot_b2 hk) (by decide)) hk1 hk2 wd12 (MM12.get 0 rfl) ((hN9.get 0 rfl).at (Has.tl MM12.hasL)) (natO_ne (hN9.get 0 rfl) (MemS.apartO (K := [(g, oC #[sB X, iN u] 81)]) MM12 0 rfl)); exact h0) rfl (by kernel_rfl) (by decide) fun ac14 wd14 lv13 (FF14 : Fr 30 ac14 [(17, .tuple #[aG #[nv ((undN (toN a b r m (2 * r + 1)) (bsz (toN a b r m (2 * r + 1))) k X).1) lv13], iN ((undN (toN a b r m (2 * r + 1)) (bsz (toN a b r m (2 * r + 1))) k X).2.1)]), (7, iN 0), (6, iN 0), (0, pT gk)]) hr15 => ?_
  obtain ⟨ht9, hn9⟩ := hr15
  have MM16 : MemS (fun k => k < w0.heap.size ∧ ∀ x ∈ (g, oC #[sB X, iN u] 81) :: O, x.1 ≠ k) w0 wd14 ((g, oC #[sB (X.drop (undN (toN a b r m (2 * r + 1)) (bsz (toN a b r m (2 * r + 1))) k X).2.2), iN (u + (undN (toN a b r m (2 * r + 1)) (bsz (toN a b r m (2 * r + 1))) k X).2.2)] 81) :: O7) [] := MM12.turnAt ht9 0 rfl
  obtain ⟨O17, MM180, hN19, hs20⟩ := MemS.addNatsT (K := [(g, oC #[sB (X.drop (undN (toN a b r m (2 * r + 1)) (bsz (toN a b r m (2 * r + 1))) k X).2.2), iN (u + (undN (toN a b r m (2 * r + 1)) (bsz (toN a b r m (2 * r + 1))) k X).2.2)] 81)]) (O := O7) MM12 MM16 rfl hn9 hN9
  have MM18 : MemS (fun k => k < w0.heap.size ∧ ∀ x ∈ (g, oC #[sB X, iN u] 81) :: O, x.1 ≠ k) w0 wd14 ((g, oC #[sB (X.drop (undN (toN a b r m (2 * r + 1)) (bsz (toN a b r m (2 * r + 1))) k X).2.2), iN (u + (undN (toN a b r m (2 * r + 1)) (bsz (toN a b r m (2 * r + 1))) k X).2.2)] 81) :: O17) [] := MM180
  have hK_21 := hK_11.mono hs20
  have hz22 : ∀ x ∈ O, x ∈ O17 := fun x hx => hs20 x (hs10 x hx)
  refine rg_part 6 FF14 MM18 [o_, o_, o_, o_, b_ 0, o_] [7, 6, 0, 8, 9] (fun Kt => ∀ bw, bw = bw ∧ (#[.slice none 0 0] : Array Value).size = 1 ∧ (#[nv ((undN (toN a b r m (2 * r + 1)) (bsz (toN a b r m (2 * r + 1))) k X).1) lv13] : Array Value).size = 1 ∧ (#[nv ((undN (toN a b r m (2 * r + 1)) (bsz (toN a b r m (2 * r + 1))) k X).1) lv13] : Array Value).all (·.oneCell') = true ∧ (0, 0).2 = 0 ∧ Kt [(9, iN ((undN (toN a b r m (2 * r + 1)) (bsz (toN a b r m (2 * r + 1))) k X).2.1)), (8, pT bw), (7, iN 0), (6, iN 0), (0, pT gk)] ((bw, oC #[nv ((undN (toN a b r m (2 * r + 1)) (bsz (toN a b r m (2 * r + 1))) k X).1) lv13] 37) :: (g, oC #[sB (X.drop (undN (toN a b r m (2 * r + 1)) (bsz (toN a b r m (2 * r + 1))) k X).2.2), iN (u + (undN (toN a b r m (2 * r + 1)) (bsz (toN a b r m (2 * r + 1))) k X).2.2)] 81) :: O17)) (by kernel_rfl) (fun _ => by kernel_rfl) (fun bw => ⟨rfl, rfl, rfl, (by kernel_rfl), rfl, fun ac23 wd23 FF23 MM23 => ?_⟩)
  refine wpl_nil (then_n ?_)
  refine wp_seq ?_
  refine wp_seq (rg_seq FF23 MM23 [o_, o_] [9, 8, 7, 6, 0, 21] (fun Kt => Kt [(21, .bool (decide (((undN (toN a b r m (2 * r + 1)) (bsz (toN a b r m (2 * r + 1))) k X).2.1) ≠ 0))), (9, iN ((undN (toN a b r m (2 * r + 1)) (bsz (toN a b r m (2 * r + 1))) k X).2.1)), (8, pT bw), (7, iN 0), (6, iN 0), (0, pT gk)] ((bw, oC #[nv ((undN (toN a b r m (2 * r + 1)) (bsz (toN a b r m (2 * r + 1))) k X).1) lv13] 37) :: (g, oC #[sB (X.drop (undN (toN a b r m (2 * r + 1)) (bsz (toN a b r m (2 * r + 1))) k X).2.2), iN (u + (undN (toN a b r m (2 * r + 1)) (bsz (toN a b r m (2 * r + 1))) k X).2.2)] 81) :: O17)) (by kernel_rfl) (fun _ => by kernel_rfl) (fun ac24 wd24 FF24 MM24 => then_n ?_))
  by_cases hs21 : ((undN (toN a b r m (2 * r + 1)) (bsz (toN a b r m (2 * r + 1))) k X).2.1) ≠ 0
  · refine wp_cond_true ((FF24.ev 0 rfl).trans (dec_t hs21)) ?_
    refine wp_seq (rg_seq FF24 MM24 [o_, o_, o_] [9, 8, 7, 6, 0] (fun Kt => Kt [(7, iN ((undN (toN a b r m (2 * r + 1)) (bsz (toN a b r m (2 * r + 1))) k X).2.1)), (6, iN 0), (9, iN ((undN (toN a b r m (2 * r + 1)) (bsz (toN a b r m (2 * r + 1))) k X).2.1)), (8, pT bw), (0, pT gk)] ((bw, oC #[nv ((undN (toN a b r m (2 * r + 1)) (bsz (toN a b r m (2 * r + 1))) k X).1) lv13] 37) :: (g, oC #[sB (X.drop (undN (toN a b r m (2 * r + 1)) (bsz (toN a b r m (2 * r + 1))) k X).2.2), iN (u + (undN (toN a b r m (2 * r + 1)) (bsz (toN a b r m (2 * r + 1))) k X).2.2)] 81) :: O17)) (by kernel_rfl) (fun _ => by kernel_rfl) (fun ac25 wd25 FF25 MM25 => then_n ?_))
    refine wp_ret ?_
    repeat first | refine then_ret ?_ | refine inb_ret ?_
    exact (ret_tup2 FF25 1 0 Tryd.results26 rfl rfl (by rw [drN, uN, if_neg hs21]; exact ⟨rfl, MM25.turn (Has.tl H) 1 rfl (fun _ hx => List.mem_cons_of_mem _ (List.mem_cons_of_mem _ (hz22 _ hx)))⟩))
  · refine wp_cond_false ((FF24.ev 0 rfl).trans (dec_f hs21)) ?_
    refine wp_skip ?_
    refine then_n ?_
    refine wp_seq (rg_seq FF24 MM24 [o_, b_ 0, u_ 1 (.tuple #[iN (aN a b r m ((undN (toN a b r m (2 * r + 1)) (bsz (toN a b r m (2 * r + 1))) k X).1)), .bool (decide ((undN (toN a b r m (2 * r + 1)) (bsz (toN a b r m (2 * r + 1))) k X).1 < toN a b r m (2 * r + 1)))]), o_, o_, o_, o_, o_] [9, 8, 7, 6, 0, 10] (fun Kt => bw = bw ∧ (#[nv ((undN (toN a b r m (2 * r + 1)) (bsz (toN a b r m (2 * r + 1))) k X).1) lv13] : Array Value).size = 1 ∧ CallP Tryd.prog 21 [pT gk, aG #[nv ((undN (toN a b r m (2 * r + 1)) (bsz (toN a b r m (2 * r + 1))) k X).1) lv13]] ((bw, oC #[nv ((undN (toN a b r m (2 * r + 1)) (bsz (toN a b r m (2 * r + 1))) k X).1) lv13] 37) :: (g, oC #[sB (X.drop (undN (toN a b r m (2 * r + 1)) (bsz (toN a b r m (2 * r + 1))) k X).2.2), iN (u + (undN (toN a b r m (2 * r + 1)) (bsz (toN a b r m (2 * r + 1))) k X).2.2)] 81) :: O17) (.tuple #[iN (aN a b r m ((undN (toN a b r m (2 * r + 1)) (bsz (toN a b r m (2 * r + 1))) k X).1)), .bool (decide ((undN (toN a b r m (2 * r + 1)) (bsz (toN a b r m (2 * r + 1))) k X).1 < toN a b r m (2 * r + 1)))]) ∧ Kt [(10, iN (aN a b r m ((undN (toN a b r m (2 * r + 1)) (bsz (toN a b r m (2 * r + 1))) k X).1))), (9, iN ((undN (toN a b r m (2 * r + 1)) (bsz (toN a b r m (2 * r + 1))) k X).2.1)), (8, pT bw), (7, iN 0), (6, iN 0), (0, pT gk)] ((bw, oC #[nv ((undN (toN a b r m (2 * r + 1)) (bsz (toN a b r m (2 * r + 1))) k X).1) lv13] 37) :: (g, oC #[sB (X.drop (undN (toN a b r m (2 * r + 1)) (bsz (toN a b r m (2 * r + 1))) k X).2.2), iN (u + (undN (toN a b r m (2 * r + 1)) (bsz (toN a b r m (2 * r + 1))) k X).2.2)] 81) :: O17)) (by kernel_rfl) (fun _ => by kernel_rfl) (⟨rfl, rfl, ⟨en_kat, fun w Hw => kat_any gk a b r m hk ((undN (toN a b r m (2 * r + 1)) (bsz (toN a b r m (2 * r + 1))) k X).1) lv13 (un_q hk) w (hK_21.at (Has.tl (Has.tl Hw))) ((hN19.get 0 rfl).at (Has.tl (Has.tl Hw)))⟩, fun ac26 wd26 FF26 MM26 => then_n ?_⟩))
    refine wp_seq (rg_seq FF26 MM26 [o_, o_, o_] [9, 8, 7, 6, 0] (fun Kt => Kt [(7, iN 0), (6, iN (aN a b r m ((undN (toN a b r m (2 * r + 1)) (bsz (toN a b r m (2 * r + 1))) k X).1))), (9, iN ((undN (toN a b r m (2 * r + 1)) (bsz (toN a b r m (2 * r + 1))) k X).2.1)), (8, pT bw), (0, pT gk)] ((bw, oC #[nv ((undN (toN a b r m (2 * r + 1)) (bsz (toN a b r m (2 * r + 1))) k X).1) lv13] 37) :: (g, oC #[sB (X.drop (undN (toN a b r m (2 * r + 1)) (bsz (toN a b r m (2 * r + 1))) k X).2.2), iN (u + (undN (toN a b r m (2 * r + 1)) (bsz (toN a b r m (2 * r + 1))) k X).2.2)] 81) :: O17)) (by kernel_rfl) (fun _ => by kernel_rfl) (fun ac27 wd27 FF27 MM27 => then_n ?_))
    refine wp_ret ?_
    repeat first | refine then_ret ?_ | refine inb_ret ?_
    exact (ret_tup2 FF27 1 0 Tryd.results26 rfl rfl (by have hE : (undN (toN a b r m (2 * r + 1)) (bsz (toN a b r m (2 * r + 1))) k X).2.1 = 0 := Decidable.of_not_not hs21; rw [drN, uN, if_pos hE]; exact ⟨by rw [hE], MM27.turn (Has.tl H) 1 rfl (fun _ hx => List.mem_cons_of_mem _ (List.mem_cons_of_mem _ (hz22 _ hx)))⟩))
theorem kdraw_any (gk g : Nat) (a b r m : Nat) (hk : TOk a b r m) (X : List Nat) (u : Nat) (hX : ∀ i, X.getD i 0 < 256) (hu : u < 4611686018427000000) (k : Nat) (hk1 : 1 ≤ k) (hk2 : k ≤ 16) (w0 : World) (hgk : w0.heap[gk]? = some (KB a b r m)) (hg : w0.heap[g]? = some (TB X u)) :
    Calls Tryd.prog 26 #[pT gk, pT g, iN k] w0 fun e w' => e = .returned (.tuple #[iN (drN a b r m k X), iN ((uN a b r m k X).2.1)]) ∧ Turn g (TB (X.drop (uN a b r m k X).2.2) (u + (uN a b r m k X).2.2)) w0 w' := by
  have hne : gk ≠ g := fun e => by subst e; rw [hg] at hgk; simp at hgk
  refine kdraw_O gk g a b r m hk X u hX hu k hk1 hk2 [(gk, KB a b r m)] (by simp [KO]) w0 (fun i x hx => ?_) ⟨fun y hy => ?_, fun y hy => (nomatch hy), trivial⟩
  · match i with
    | 0 => simp at hx; subst hx; exact hg
    | 1 => simp at hx; subst hx; exact hgk
    | i + 2 => simp at hx
  · simp at hy; subst hy; exact fun e => hne (by first | exact e | exact e.symm)
set_option maxRecDepth 100000 in
theorem kdraw_tloO (O : Blks) (hD : Distinct O) (gk : Nat) (g : Nat) (a b r m : Nat) (hk : TOk a b r m) (t : Int) (hz : t < 1) (hK : KO O gk a b r m) (w0 : World) (H : Has w0 O) :
    Calls Tryd.prog 26 #[pT gk, pT g, .int .i64 t] w0 fun e w' => e = .returned (.tuple #[iN 0, iN 1]) ∧ Below w0.heap.size w0 w' := by
  refine enter_fr Tryd.func26 rfl Tryd.ntmps26 (by simp) fun ac (FF : Fr 30 ac [(0, pT gk), (1, pT g), (2, .int .i64 (t : Int))]) => ?_
  have MM : MemS (fun k => k < w0.heap.size ∧ ∀ x ∈ O, x.1 ≠ k) w0 w0 O [] := MemS.startN H hD
  refine wp_seq (rg_seq FF MM [o_, o_] [0, 1, 2, 6, 7] (fun Kt => Kt [(7, iN 0), (6, iN 0), (0, pT gk), (1, pT g), (2, .int .i64 (t : Int))] O) (by kernel_rfl) (fun _ => by kernel_rfl) (fun ac1 wd1 FF1 MM1 => then_n ?_))
  refine wp_seq (wp_region_list ?_)
  refine rg_part 2 FF1 MM1 [o_, o_] [7, 6, 0, 2, 13, 14] (fun Kt => Kt [(14, pT gk), (13, pT g), (7, iN 0), (6, iN 0), (0, pT gk), (2, .int .i64 (t : Int))] O) (by kernel_rfl) (fun _ => by kernel_rfl) (fun ac2 wd2 FF2 MM2 => ?_)
  refine st_callE [13, 7, 6, 0, 2, 15] FF2 (d := 15) (mk := fun v => .agg #[nv (toN a b r m (2 * r + 1)) v]) en_ktotal rfl rfl (ktotal_any gk a b r m hk _ (hK.at MM2.hasL)) rfl (by kernel_rfl) (by decide) fun ac4 wd4 lv3 (FF4 : Fr 30 ac4 [(15, aG #[nv (toN a b r m (2 * r + 1)) lv3]), (13, pT g), (7, iN 0), (6, iN 0), (0, pT gk), (2, .int .i64 (t : Int))]) hr5 => ?_
  have hfr6 : ∀ g, (nv (toN a b r m (2 * r + 1)) lv3).ownBlock = some g → w0.heap.size ≤ g := fun g hg => Nat.le_trans MM2.size (hr5.2.2 g hg)
  obtain ⟨O7, MM80, hN9, hs10⟩ := MemS.addNats (K := []) (O := O) MM2 hr5.1 hr5.2 (Nats.nil O)
  have MM8 : MemS (fun k => k < w0.heap.size ∧ ∀ x ∈ O, x.1 ≠ k) w0 wd4 O7 [] := MM80
  have hK_11 := hK.mono hs10
  refine rg_part 8 FF4 MM8 [o_, u_ 1 (.tuple #[aG #[.slice none 0 0], iN 1]), o_, o_, o_, o_, b_ 0, o_] [7, 6, 0, 8, 9] (fun Kt => CallP Tryd.prog 47 [pT g, aG #[nv (toN a b r m (2 * r + 1)) lv3], .int .i64 (t : Int)] O7 (.tuple #[aG #[.slice none 0 0], iN 1]) ∧ ∀ bw, bw = bw ∧ (#[.slice none 0 0] : Array Value).size = 1 ∧ (#[.slice none 0 0] : Array Value).size = 1 ∧ (#[.slice none 0 0] : Array Value).all (·.oneCell') = true ∧ (0, 0).2 = 0 ∧ Kt [(9, iN 1), (8, pT bw), (7, iN 0), (6, iN 0), (0, pT gk)] ((bw, oC #[.slice none 0 0] 37) :: O7)) (by kernel_rfl) (fun _ => by kernel_rfl) (⟨⟨en_tunder, fun w Hw => tunder_tlo g (toN a b r m (2 * r + 1)) lv3 (tot_q hk) t (tot_b1 hk) (Nat.le_trans (tot_b2 hk) (by decide)) hz w ((hN9.get 0 rfl).at Hw)⟩, fun bw => ⟨rfl, rfl, rfl, (by kernel_rfl), rfl, fun ac12 wd12 FF12 MM12 => ?_⟩⟩)
  refine wpl_nil (then_n ?_)
  refine wp_seq ?_
  refine wp_seq (rg_seq FF12 MM12 [o_, w_ 2] [9, 8, 7, 6, 0, 21] (fun Kt => 1 ≠ 0 ∧ Kt [(21, .bool true), (9, iN 1), (8, pT bw), (7, iN 0), (6, iN 0), (0, pT gk)] ((bw, oC #[.slice none 0 0] 37) :: O7)) (by kernel_rfl) (fun _ => by kernel_rfl) (⟨(by decide), fun ac13 wd13 FF13 MM13 => then_n ?_⟩))
  refine wp_cond_true (FF13.ev 0 rfl) ?_
  refine wp_seq (rg_seq FF13 MM13 [o_, o_, o_] [9, 8, 7, 6, 0] (fun Kt => Kt [(7, iN 1), (6, iN 0), (9, iN 1), (8, pT bw), (0, pT gk)] ((bw, oC #[.slice none 0 0] 37) :: O7)) (by kernel_rfl) (fun _ => by kernel_rfl) (fun ac14 wd14 FF14 MM14 => then_n ?_))
  refine wp_ret ?_
  repeat first | refine then_ret ?_ | refine inb_ret ?_
  exact (ret_tup2 FF14 1 0 Tryd.results26 rfl rfl ⟨rfl, MM14.belowN H (fun _ hx => List.mem_cons_of_mem _ (hs10 _ hx))⟩)
theorem kdraw_tlo (gk : Nat) (g : Nat) (a b r m : Nat) (hk : TOk a b r m) (t : Int) (hz : t < 1) (w : World) (hgk : w.heap[gk]? = some (KB a b r m)) : Calls Tryd.prog 26 #[pT gk, pT g, .int .i64 t] w fun e w' => e = .returned (.tuple #[iN 0, iN 1]) ∧ Below w.heap.size w w' := by
  obtain ⟨O, h1, h2, h3⟩ := kone_O hgk
  exact kdraw_tloO O h2 gk g a b r m hk t hz h3 w h1
set_option maxRecDepth 100000 in
theorem kdraw_thiO (O : Blks) (hD : Distinct O) (gk : Nat) (g : Nat) (a b r m : Nat) (hk : TOk a b r m) (t : Int) (hz : t > 16) (hK : KO O gk a b r m) (w0 : World) (H : Has w0 O) :
    Calls Tryd.prog 26 #[pT gk, pT g, .int .i64 t] w0 fun e w' => e = .returned (.tuple #[iN 0, iN 1]) ∧ Below w0.heap.size w0 w' := by
  refine enter_fr Tryd.func26 rfl Tryd.ntmps26 (by simp) fun ac (FF : Fr 30 ac [(0, pT gk), (1, pT g), (2, .int .i64 (t : Int))]) => ?_
  have MM : MemS (fun k => k < w0.heap.size ∧ ∀ x ∈ O, x.1 ≠ k) w0 w0 O [] := MemS.startN H hD
  refine wp_seq (rg_seq FF MM [o_, o_] [0, 1, 2, 6, 7] (fun Kt => Kt [(7, iN 0), (6, iN 0), (0, pT gk), (1, pT g), (2, .int .i64 (t : Int))] O) (by kernel_rfl) (fun _ => by kernel_rfl) (fun ac1 wd1 FF1 MM1 => then_n ?_))
  refine wp_seq (wp_region_list ?_)
  refine rg_part 2 FF1 MM1 [o_, o_] [7, 6, 0, 2, 13, 14] (fun Kt => Kt [(14, pT gk), (13, pT g), (7, iN 0), (6, iN 0), (0, pT gk), (2, .int .i64 (t : Int))] O) (by kernel_rfl) (fun _ => by kernel_rfl) (fun ac2 wd2 FF2 MM2 => ?_)
  refine st_callE [13, 7, 6, 0, 2, 15] FF2 (d := 15) (mk := fun v => .agg #[nv (toN a b r m (2 * r + 1)) v]) en_ktotal rfl rfl (ktotal_any gk a b r m hk _ (hK.at MM2.hasL)) rfl (by kernel_rfl) (by decide) fun ac4 wd4 lv3 (FF4 : Fr 30 ac4 [(15, aG #[nv (toN a b r m (2 * r + 1)) lv3]), (13, pT g), (7, iN 0), (6, iN 0), (0, pT gk), (2, .int .i64 (t : Int))]) hr5 => ?_
  have hfr6 : ∀ g, (nv (toN a b r m (2 * r + 1)) lv3).ownBlock = some g → w0.heap.size ≤ g := fun g hg => Nat.le_trans MM2.size (hr5.2.2 g hg)
  obtain ⟨O7, MM80, hN9, hs10⟩ := MemS.addNats (K := []) (O := O) MM2 hr5.1 hr5.2 (Nats.nil O)
  have MM8 : MemS (fun k => k < w0.heap.size ∧ ∀ x ∈ O, x.1 ≠ k) w0 wd4 O7 [] := MM80
  have hK_11 := hK.mono hs10
  refine rg_part 8 FF4 MM8 [o_, u_ 1 (.tuple #[aG #[.slice none 0 0], iN 1]), o_, o_, o_, o_, b_ 0, o_] [7, 6, 0, 8, 9] (fun Kt => CallP Tryd.prog 47 [pT g, aG #[nv (toN a b r m (2 * r + 1)) lv3], .int .i64 (t : Int)] O7 (.tuple #[aG #[.slice none 0 0], iN 1]) ∧ ∀ bw, bw = bw ∧ (#[.slice none 0 0] : Array Value).size = 1 ∧ (#[.slice none 0 0] : Array Value).size = 1 ∧ (#[.slice none 0 0] : Array Value).all (·.oneCell') = true ∧ (0, 0).2 = 0 ∧ Kt [(9, iN 1), (8, pT bw), (7, iN 0), (6, iN 0), (0, pT gk)] ((bw, oC #[.slice none 0 0] 37) :: O7)) (by kernel_rfl) (fun _ => by kernel_rfl) (⟨⟨en_tunder, fun w Hw => tunder_thi g (toN a b r m (2 * r + 1)) lv3 (tot_q hk) t (tot_b1 hk) (Nat.le_trans (tot_b2 hk) (by decide)) hz w ((hN9.get 0 rfl).at Hw)⟩, fun bw => ⟨rfl, rfl, rfl, (by kernel_rfl), rfl, fun ac12 wd12 FF12 MM12 => ?_⟩⟩)
  refine wpl_nil (then_n ?_)
  refine wp_seq ?_
  refine wp_seq (rg_seq FF12 MM12 [o_, w_ 2] [9, 8, 7, 6, 0, 21] (fun Kt => 1 ≠ 0 ∧ Kt [(21, .bool true), (9, iN 1), (8, pT bw), (7, iN 0), (6, iN 0), (0, pT gk)] ((bw, oC #[.slice none 0 0] 37) :: O7)) (by kernel_rfl) (fun _ => by kernel_rfl) (⟨(by decide), fun ac13 wd13 FF13 MM13 => then_n ?_⟩))
  refine wp_cond_true (FF13.ev 0 rfl) ?_
  refine wp_seq (rg_seq FF13 MM13 [o_, o_, o_] [9, 8, 7, 6, 0] (fun Kt => Kt [(7, iN 1), (6, iN 0), (9, iN 1), (8, pT bw), (0, pT gk)] ((bw, oC #[.slice none 0 0] 37) :: O7)) (by kernel_rfl) (fun _ => by kernel_rfl) (fun ac14 wd14 FF14 MM14 => then_n ?_))
  refine wp_ret ?_
  repeat first | refine then_ret ?_ | refine inb_ret ?_
  exact (ret_tup2 FF14 1 0 Tryd.results26 rfl rfl ⟨rfl, MM14.belowN H (fun _ hx => List.mem_cons_of_mem _ (hs10 _ hx))⟩)
theorem kdraw_thi (gk : Nat) (g : Nat) (a b r m : Nat) (hk : TOk a b r m) (t : Int) (hz : t > 16) (w : World) (hgk : w.heap[gk]? = some (KB a b r m)) : Calls Tryd.prog 26 #[pT gk, pT g, .int .i64 t] w fun e w' => e = .returned (.tuple #[iN 0, iN 1]) ∧ Below w.heap.size w w' := by
  obtain ⟨O, h1, h2, h3⟩ := kone_O hgk
  exact kdraw_thiO O h2 gk g a b r m hk t hz h3 w h1
end Go.Proofs.YtlljedijldkcbaaDoor
namespace Go.Proofs.YtlljedijldkcbaaDoor
open Go.RowKit
theorem en_qmay : Enters Tryd.prog 10 := fun args w => by simp [go_sem]
theorem en_qleast : Enters Tryd.prog 12 := fun args w => by simp [go_sem]
theorem en_qmost : Enters Tryd.prog 14 := fun args w => by simp [go_sem]
theorem en_qweight : Enters Tryd.prog 19 := fun args w => by simp [go_sem]
theorem en_qtotal : Enters Tryd.prog 17 := fun args w => by simp [go_sem]
theorem en_qat : Enters Tryd.prog 23 := fun args w => by simp [go_sem]
theorem en_qdraw : Enters Tryd.prog 27 := fun args w => by simp [go_sem]
theorem szs {N : Nat} (h : N < 18446744073709551616) : sz N ≤ 8 := sz_le (Nat.lt_of_lt_of_le h (by decide))
theorem sz16 {a : Nat} (h : a ≤ 16) : sz a ≤ 20 := Nat.le_trans (sz_le (n := 1) (by omega)) (by decide)
theorem negn_ok {P : Program} {l : Slots} {L : Blks} {o : Oper} {t : TypeId} {x : Operand} {d : Nat} (ho : o.op = .unOp .neg t x) (hx : evO l x = some (.int .i64 (-((d : Nat) : Int)))) (hz : d = 1 ∨ d = 2 ∨ d = 3 ∨ d = 4) : RunV P l L o (.int .i64 ((d : Nat) : Int)) := fun ρ w Ag _ => by
  have e := Ag x _ hx
  have h1 : (Op.unary .neg (.int .i64 (-((d : Nat) : Int)))).run P w = .ok (.int .i64 ((d : Nat) : Int)) w := by rcases hz with rfl | rfl | rfl | rfl <;> rfl
  simp only [execOp, ho, e, Sem.run_bind, h1, Result.andThen_ok, Sem.run_pure]
set_option maxRecDepth 100000 in
theorem qmay_yes (a b r m : Int) (h : TOz a b r m) (w0 : World) :
    Calls Tryd.prog 10 #[.agg #[.int .i64 a, .int .i64 b, .int .i64 r, .int .i64 m]] w0 fun e w' => e = .returned (.bool true) ∧ Below w0.heap.size w0 w' := by
  refine enter_fr Tryd.func10 rfl Tryd.ntmps10 (by simp) fun ac (FF : Fr 48 ac [(0, aG #[.int .i64 (a : Int), .int .i64 (b : Int), .int .i64 (r : Int), .int .i64 (m : Int)])]) => ?_
  have MM := MemS.start w0
  obtain ⟨h1, h2, h3, h4, h5, h6⟩ := h
  refine wp_seq (rg_seq FF MM [o_, o_] [1, 2] (fun Kt => ∀ bq, Kt [(2, .bool false), (1, pT bq)] [(bq, oC #[.int .i64 (a : Int), .int .i64 (b : Int), .int .i64 (r : Int), .int .i64 (m : Int)] 27)]) (by kernel_rfl) (fun _ => by kernel_rfl) (fun bq => fun ac1 wd1 FF1 MM1 => then_n ?_))
  refine wp_seq (rg_seq FF1 MM1 [o_, l_ 0 (.int .i64 (b : Int)), w_ 6, o_, o_, l_ 0 (.int .i64 (b : Int)), o_, l_ 0 (.int .i64 (a : Int)), w_ 6, o_, o_, o_, l_ 0 (.int .i64 (a : Int)), w_ 6, o_, o_, o_, l_ 0 (.int .i64 (r : Int)), w_ 6, o_, o_, o_, l_ 0 (.int .i64 (m : Int)), o_, l_ 0 (.int .i64 (r : Int)), w_ 6, o_, o_, o_, l_ 0 (.int .i64 (m : Int)), w_ 6, o_, o_, o_, l_ 0 (.int .i64 (r : Int)), w_ 6, o_, o_, o_, l_ 0 (.int .i64 (m : Int)), o_, l_ 0 (.int .i64 (r : Int)), u_ 4 (.int .i64 (m + r : Int)), w_ 6, o_, o_] [2] (fun Kt => bq = bq ∧ (#[.int .i64 (a : Int), .int .i64 (b : Int), .int .i64 (r : Int), .int .i64 (m : Int)] : Array Value)[1]? = some (.int .i64 (b : Int)) ∧ b ≥ ((1 : Nat) : Int) ∧ bq = bq ∧ (#[.int .i64 (a : Int), .int .i64 (b : Int), .int .i64 (r : Int), .int .i64 (m : Int)] : Array Value)[1]? = some (.int .i64 (b : Int)) ∧ bq = bq ∧ (#[.int .i64 (a : Int), .int .i64 (b : Int), .int .i64 (r : Int), .int .i64 (m : Int)] : Array Value)[0]? = some (.int .i64 (a : Int)) ∧ b < a ∧ bq = bq ∧ (#[.int .i64 (a : Int), .int .i64 (b : Int), .int .i64 (r : Int), .int .i64 (m : Int)] : Array Value)[0]? = some (.int .i64 (a : Int)) ∧ a ≤ ((16 : Nat) : Int) ∧ bq = bq ∧ (#[.int .i64 (a : Int), .int .i64 (b : Int), .int .i64 (r : Int), .int .i64 (m : Int)] : Array Value)[2]? = some (.int .i64 (r : Int)) ∧ r ≥ ((0 : Nat) : Int) ∧ bq = bq ∧ (#[.int .i64 (a : Int), .int .i64 (b : Int), .int .i64 (r : Int), .int .i64 (m : Int)] : Array Value)[3]? = some (.int .i64 (m : Int)) ∧ bq = bq ∧ (#[.int .i64 (a : Int), .int .i64 (b : Int), .int .i64 (r : Int), .int .i64 (m : Int)] : Array Value)[2]? = some (.int .i64 (r : Int)) ∧ m ≥ r ∧ bq = bq ∧ (#[.int .i64 (a : Int), .int .i64 (b : Int), .int .i64 (r : Int), .int .i64 (m : Int)] : Array Value)[3]? = some (.int .i64 (m : Int)) ∧ m ≤ ((8 : Nat) : Int) ∧ bq = bq ∧ (#[.int .i64 (a : Int), .int .i64 (b : Int), .int .i64 (r : Int), .int .i64 (m : Int)] : Array Value)[2]? = some (.int .i64 (r : Int)) ∧ r ≤ ((8 : Nat) : Int) ∧ bq = bq ∧ (#[.int .i64 (a : Int), .int .i64 (b : Int), .int .i64 (r : Int), .int .i64 (m : Int)] : Array Value)[3]? = some (.int .i64 (m : Int)) ∧ bq = bq ∧ (#[.int .i64 (a : Int), .int .i64 (b : Int), .int .i64 (r : Int), .int .i64 (m : Int)] : Array Value)[2]? = some (.int .i64 (r : Int)) ∧ -(9223372036854775808 : Int) ≤ m + r ∧ m + r < (9223372036854775808 : Nat) ∧ Value.int .i64 (m + r : Int) = .int .i64 (m + r : Int) ∧ (m + r) ≤ ((8 : Nat) : Int) ∧ Kt [(2, .bool true)] [(bq, oC #[.int .i64 (a : Int), .int .i64 (b : Int), .int .i64 (r : Int), .int .i64 (m : Int)] 27)]) (by kernel_rfl) (fun _ => by kernel_rfl) (⟨rfl, rfl, (by omega), rfl, rfl, rfl, rfl, (by omega), rfl, rfl, (by omega), rfl, rfl, (by omega), rfl, rfl, rfl, rfl, (by omega), rfl, rfl, (by omega), rfl, rfl, (by omega), rfl, rfl, rfl, rfl, (by omega), (by omega), (vZ rfl), (by omega), fun ac2 wd2 FF2 MM2 => then_n ?_⟩))
  refine wp_ret ?_
  repeat first | refine then_ret ?_ | refine inb_ret ?_
  exact (ret_fr FF2 0 Tryd.results10 rfl ⟨rfl, MM2.below⟩)
set_option maxRecDepth 100000 in
theorem qmay_no (a b r m : Int) (h : ¬ TOz a b r m) (w0 : World) :
    Calls Tryd.prog 10 #[.agg #[.int .i64 a, .int .i64 b, .int .i64 r, .int .i64 m]] w0 fun e w' => e = .returned (.bool false) ∧ Below w0.heap.size w0 w' := by
  refine enter_fr Tryd.func10 rfl Tryd.ntmps10 (by simp) fun ac (FF : Fr 48 ac [(0, aG #[.int .i64 (a : Int), .int .i64 (b : Int), .int .i64 (r : Int), .int .i64 (m : Int)])]) => ?_
  have MM := MemS.start w0
  refine wp_seq (rg_seq FF MM [o_, o_] [1, 2] (fun Kt => ∀ bq, Kt [(2, .bool false), (1, pT bq)] [(bq, oC #[.int .i64 (a : Int), .int .i64 (b : Int), .int .i64 (r : Int), .int .i64 (m : Int)] 27)]) (by kernel_rfl) (fun _ => by kernel_rfl) (fun bq => fun ac1 wd1 FF1 MM1 => then_n ?_))
  by_cases c0 : 1 ≤ b
  · skip
    by_cases c1 : b < a
    · skip
      by_cases c2 : a ≤ 16
      · skip
        by_cases c3 : 0 ≤ r
        · skip
          by_cases c4 : r ≤ m
          · skip
            by_cases c5 : m ≤ 8
            · skip
              by_cases c6 : r ≤ 8
              · skip
                by_cases c7 : m + r ≤ 8
                · skip
                  exact (h ⟨by omega, by omega, by omega, by omega, by omega, by omega⟩).elim
                · skip
                  refine wp_seq (rg_seq FF1 MM1 [o_, l_ 0 (.int .i64 (b : Int)), w_ 6, o_, o_, l_ 0 (.int .i64 (b : Int)), o_, l_ 0 (.int .i64 (a : Int)), w_ 6, o_, o_, o_, l_ 0 (.int .i64 (a : Int)), w_ 6, o_, o_, o_, l_ 0 (.int .i64 (r : Int)), w_ 6, o_, o_, o_, l_ 0 (.int .i64 (m : Int)), o_, l_ 0 (.int .i64 (r : Int)), w_ 6, o_, o_, o_, l_ 0 (.int .i64 (m : Int)), w_ 6, o_, o_, o_, l_ 0 (.int .i64 (r : Int)), w_ 6, o_, o_, o_, l_ 0 (.int .i64 (m : Int)), o_, l_ 0 (.int .i64 (r : Int)), u_ 4 (.int .i64 (m + r : Int)), u_ 4 (.bool false), o_, o_] [2] (fun Kt => bq = bq ∧ (#[.int .i64 (a : Int), .int .i64 (b : Int), .int .i64 (r : Int), .int .i64 (m : Int)] : Array Value)[1]? = some (.int .i64 (b : Int)) ∧ b ≥ ((1 : Nat) : Int) ∧ bq = bq ∧ (#[.int .i64 (a : Int), .int .i64 (b : Int), .int .i64 (r : Int), .int .i64 (m : Int)] : Array Value)[1]? = some (.int .i64 (b : Int)) ∧ bq = bq ∧ (#[.int .i64 (a : Int), .int .i64 (b : Int), .int .i64 (r : Int), .int .i64 (m : Int)] : Array Value)[0]? = some (.int .i64 (a : Int)) ∧ b < a ∧ bq = bq ∧ (#[.int .i64 (a : Int), .int .i64 (b : Int), .int .i64 (r : Int), .int .i64 (m : Int)] : Array Value)[0]? = some (.int .i64 (a : Int)) ∧ a ≤ ((16 : Nat) : Int) ∧ bq = bq ∧ (#[.int .i64 (a : Int), .int .i64 (b : Int), .int .i64 (r : Int), .int .i64 (m : Int)] : Array Value)[2]? = some (.int .i64 (r : Int)) ∧ r ≥ ((0 : Nat) : Int) ∧ bq = bq ∧ (#[.int .i64 (a : Int), .int .i64 (b : Int), .int .i64 (r : Int), .int .i64 (m : Int)] : Array Value)[3]? = some (.int .i64 (m : Int)) ∧ bq = bq ∧ (#[.int .i64 (a : Int), .int .i64 (b : Int), .int .i64 (r : Int), .int .i64 (m : Int)] : Array Value)[2]? = some (.int .i64 (r : Int)) ∧ m ≥ r ∧ bq = bq ∧ (#[.int .i64 (a : Int), .int .i64 (b : Int), .int .i64 (r : Int), .int .i64 (m : Int)] : Array Value)[3]? = some (.int .i64 (m : Int)) ∧ m ≤ ((8 : Nat) : Int) ∧ bq = bq ∧ (#[.int .i64 (a : Int), .int .i64 (b : Int), .int .i64 (r : Int), .int .i64 (m : Int)] : Array Value)[2]? = some (.int .i64 (r : Int)) ∧ r ≤ ((8 : Nat) : Int) ∧ bq = bq ∧ (#[.int .i64 (a : Int), .int .i64 (b : Int), .int .i64 (r : Int), .int .i64 (m : Int)] : Array Value)[3]? = some (.int .i64 (m : Int)) ∧ bq = bq ∧ (#[.int .i64 (a : Int), .int .i64 (b : Int), .int .i64 (r : Int), .int .i64 (m : Int)] : Array Value)[2]? = some (.int .i64 (r : Int)) ∧ -(9223372036854775808 : Int) ≤ m + r ∧ m + r < (9223372036854775808 : Nat) ∧ Value.int .i64 (m + r : Int) = .int .i64 (m + r : Int) ∧ Value.bool (decide ((m + r) ≤ ((8 : Nat) : Int))) = .bool false ∧ Kt [(2, .bool false)] [(bq, oC #[.int .i64 (a : Int), .int .i64 (b : Int), .int .i64 (r : Int), .int .i64 (m : Int)] 27)]) (by kernel_rfl) (fun _ => by kernel_rfl) (⟨rfl, rfl, (by omega), rfl, rfl, rfl, rfl, (by omega), rfl, rfl, (by omega), rfl, rfl, (by omega), rfl, rfl, rfl, rfl, (by omega), rfl, rfl, (by omega), rfl, rfl, (by omega), rfl, rfl, rfl, rfl, (by omega), (by omega), (vZ rfl), (dec_f (by omega)), fun ac2 wd2 FF2 MM2 => then_n ?_⟩))
                  refine wp_ret ?_
                  repeat first | refine then_ret ?_ | refine inb_ret ?_
                  exact (ret_fr FF2 0 Tryd.results10 rfl ⟨rfl, MM2.below⟩)
              · skip
                refine wp_seq (rg_seq FF1 MM1 [o_, l_ 0 (.int .i64 (b : Int)), w_ 6, o_, o_, l_ 0 (.int .i64 (b : Int)), o_, l_ 0 (.int .i64 (a : Int)), w_ 6, o_, o_, o_, l_ 0 (.int .i64 (a : Int)), w_ 6, o_, o_, o_, l_ 0 (.int .i64 (r : Int)), w_ 6, o_, o_, o_, l_ 0 (.int .i64 (m : Int)), o_, l_ 0 (.int .i64 (r : Int)), w_ 6, o_, o_, o_, l_ 0 (.int .i64 (m : Int)), w_ 6, o_, o_, o_, l_ 0 (.int .i64 (r : Int)), u_ 4 (.bool false), o_, o_, o_, o_, o_, o_, o_, o_, o_, o_] [2] (fun Kt => bq = bq ∧ (#[.int .i64 (a : Int), .int .i64 (b : Int), .int .i64 (r : Int), .int .i64 (m : Int)] : Array Value)[1]? = some (.int .i64 (b : Int)) ∧ b ≥ ((1 : Nat) : Int) ∧ bq = bq ∧ (#[.int .i64 (a : Int), .int .i64 (b : Int), .int .i64 (r : Int), .int .i64 (m : Int)] : Array Value)[1]? = some (.int .i64 (b : Int)) ∧ bq = bq ∧ (#[.int .i64 (a : Int), .int .i64 (b : Int), .int .i64 (r : Int), .int .i64 (m : Int)] : Array Value)[0]? = some (.int .i64 (a : Int)) ∧ b < a ∧ bq = bq ∧ (#[.int .i64 (a : Int), .int .i64 (b : Int), .int .i64 (r : Int), .int .i64 (m : Int)] : Array Value)[0]? = some (.int .i64 (a : Int)) ∧ a ≤ ((16 : Nat) : Int) ∧ bq = bq ∧ (#[.int .i64 (a : Int), .int .i64 (b : Int), .int .i64 (r : Int), .int .i64 (m : Int)] : Array Value)[2]? = some (.int .i64 (r : Int)) ∧ r ≥ ((0 : Nat) : Int) ∧ bq = bq ∧ (#[.int .i64 (a : Int), .int .i64 (b : Int), .int .i64 (r : Int), .int .i64 (m : Int)] : Array Value)[3]? = some (.int .i64 (m : Int)) ∧ bq = bq ∧ (#[.int .i64 (a : Int), .int .i64 (b : Int), .int .i64 (r : Int), .int .i64 (m : Int)] : Array Value)[2]? = some (.int .i64 (r : Int)) ∧ m ≥ r ∧ bq = bq ∧ (#[.int .i64 (a : Int), .int .i64 (b : Int), .int .i64 (r : Int), .int .i64 (m : Int)] : Array Value)[3]? = some (.int .i64 (m : Int)) ∧ m ≤ ((8 : Nat) : Int) ∧ bq = bq ∧ (#[.int .i64 (a : Int), .int .i64 (b : Int), .int .i64 (r : Int), .int .i64 (m : Int)] : Array Value)[2]? = some (.int .i64 (r : Int)) ∧ Value.bool (decide (r ≤ ((8 : Nat) : Int))) = .bool false ∧ Kt [(2, .bool false)] [(bq, oC #[.int .i64 (a : Int), .int .i64 (b : Int), .int .i64 (r : Int), .int .i64 (m : Int)] 27)]) (by kernel_rfl) (fun _ => by kernel_rfl) (⟨rfl, rfl, (by omega), rfl, rfl, rfl, rfl, (by omega), rfl, rfl, (by omega), rfl, rfl, (by omega), rfl, rfl, rfl, rfl, (by omega), rfl, rfl, (by omega), rfl, rfl, (dec_f (by omega)), fun ac3 wd3 FF3 MM3 => then_n ?_⟩))
                refine wp_ret ?_
                repeat first | refine then_ret ?_ | refine inb_ret ?_
                exact (ret_fr FF3 0 Tryd.results10 rfl ⟨rfl, MM3.below⟩)
            · skip
              refine wp_seq (rg_seq FF1 MM1 [o_, l_ 0 (.int .i64 (b : Int)), w_ 6, o_, o_, l_ 0 (.int .i64 (b : Int)), o_, l_ 0 (.int .i64 (a : Int)), w_ 6, o_, o_, o_, l_ 0 (.int .i64 (a : Int)), w_ 6, o_, o_, o_, l_ 0 (.int .i64 (r : Int)), w_ 6, o_, o_, o_, l_ 0 (.int .i64 (m : Int)), o_, l_ 0 (.int .i64 (r : Int)), w_ 6, o_, o_, o_, l_ 0 (.int .i64 (m : Int)), u_ 4 (.bool false), o_, o_, o_, o_, o_, o_, o_, o_, o_, o_, o_, o_, o_, o_, o_] [2] (fun Kt => bq = bq ∧ (#[.int .i64 (a : Int), .int .i64 (b : Int), .int .i64 (r : Int), .int .i64 (m : Int)] : Array Value)[1]? = some (.int .i64 (b : Int)) ∧ b ≥ ((1 : Nat) : Int) ∧ bq = bq ∧ (#[.int .i64 (a : Int), .int .i64 (b : Int), .int .i64 (r : Int), .int .i64 (m : Int)] : Array Value)[1]? = some (.int .i64 (b : Int)) ∧ bq = bq ∧ (#[.int .i64 (a : Int), .int .i64 (b : Int), .int .i64 (r : Int), .int .i64 (m : Int)] : Array Value)[0]? = some (.int .i64 (a : Int)) ∧ b < a ∧ bq = bq ∧ (#[.int .i64 (a : Int), .int .i64 (b : Int), .int .i64 (r : Int), .int .i64 (m : Int)] : Array Value)[0]? = some (.int .i64 (a : Int)) ∧ a ≤ ((16 : Nat) : Int) ∧ bq = bq ∧ (#[.int .i64 (a : Int), .int .i64 (b : Int), .int .i64 (r : Int), .int .i64 (m : Int)] : Array Value)[2]? = some (.int .i64 (r : Int)) ∧ r ≥ ((0 : Nat) : Int) ∧ bq = bq ∧ (#[.int .i64 (a : Int), .int .i64 (b : Int), .int .i64 (r : Int), .int .i64 (m : Int)] : Array Value)[3]? = some (.int .i64 (m : Int)) ∧ bq = bq ∧ (#[.int .i64 (a : Int), .int .i64 (b : Int), .int .i64 (r : Int), .int .i64 (m : Int)] : Array Value)[2]? = some (.int .i64 (r : Int)) ∧ m ≥ r ∧ bq = bq ∧ (#[.int .i64 (a : Int), .int .i64 (b : Int), .int .i64 (r : Int), .int .i64 (m : Int)] : Array Value)[3]? = some (.int .i64 (m : Int)) ∧ Value.bool (decide (m ≤ ((8 : Nat) : Int))) = .bool false ∧ Kt [(2, .bool false)] [(bq, oC #[.int .i64 (a : Int), .int .i64 (b : Int), .int .i64 (r : Int), .int .i64 (m : Int)] 27)]) (by kernel_rfl) (fun _ => by kernel_rfl) (⟨rfl, rfl, (by omega), rfl, rfl, rfl, rfl, (by omega), rfl, rfl, (by omega), rfl, rfl, (by omega), rfl, rfl, rfl, rfl, (by omega), rfl, rfl, (dec_f (by omega)), fun ac4 wd4 FF4 MM4 => then_n ?_⟩))
              refine wp_ret ?_
              repeat first | refine then_ret ?_ | refine inb_ret ?_
              exact (ret_fr FF4 0 Tryd.results10 rfl ⟨rfl, MM4.below⟩)
          · skip
            refine wp_seq (rg_seq FF1 MM1 [o_, l_ 0 (.int .i64 (b : Int)), w_ 6, o_, o_, l_ 0 (.int .i64 (b : Int)), o_, l_ 0 (.int .i64 (a : Int)), w_ 6, o_, o_, o_, l_ 0 (.int .i64 (a : Int)), w_ 6, o_, o_, o_, l_ 0 (.int .i64 (r : Int)), w_ 6, o_, o_, o_, l_ 0 (.int .i64 (m : Int)), o_, l_ 0 (.int .i64 (r : Int)), u_ 4 (.bool false), o_, o_, o_, o_, o_, o_, o_, o_, o_, o_, o_, o_, o_, o_, o_, o_, o_, o_, o_, o_] [2] (fun Kt => bq = bq ∧ (#[.int .i64 (a : Int), .int .i64 (b : Int), .int .i64 (r : Int), .int .i64 (m : Int)] : Array Value)[1]? = some (.int .i64 (b : Int)) ∧ b ≥ ((1 : Nat) : Int) ∧ bq = bq ∧ (#[.int .i64 (a : Int), .int .i64 (b : Int), .int .i64 (r : Int), .int .i64 (m : Int)] : Array Value)[1]? = some (.int .i64 (b : Int)) ∧ bq = bq ∧ (#[.int .i64 (a : Int), .int .i64 (b : Int), .int .i64 (r : Int), .int .i64 (m : Int)] : Array Value)[0]? = some (.int .i64 (a : Int)) ∧ b < a ∧ bq = bq ∧ (#[.int .i64 (a : Int), .int .i64 (b : Int), .int .i64 (r : Int), .int .i64 (m : Int)] : Array Value)[0]? = some (.int .i64 (a : Int)) ∧ a ≤ ((16 : Nat) : Int) ∧ bq = bq ∧ (#[.int .i64 (a : Int), .int .i64 (b : Int), .int .i64 (r : Int), .int .i64 (m : Int)] : Array Value)[2]? = some (.int .i64 (r : Int)) ∧ r ≥ ((0 : Nat) : Int) ∧ bq = bq ∧ (#[.int .i64 (a : Int), .int .i64 (b : Int), .int .i64 (r : Int), .int .i64 (m : Int)] : Array Value)[3]? = some (.int .i64 (m : Int)) ∧ bq = bq ∧ (#[.int .i64 (a : Int), .int .i64 (b : Int), .int .i64 (r : Int), .int .i64 (m : Int)] : Array Value)[2]? = some (.int .i64 (r : Int)) ∧ Value.bool (decide (m ≥ r)) = .bool false ∧ Kt [(2, .bool false)] [(bq, oC #[.int .i64 (a : Int), .int .i64 (b : Int), .int .i64 (r : Int), .int .i64 (m : Int)] 27)]) (by kernel_rfl) (fun _ => by kernel_rfl) (⟨rfl, rfl, (by omega), rfl, rfl, rfl, rfl, (by omega), rfl, rfl, (by omega), rfl, rfl, (by omega), rfl, rfl, rfl, rfl, (dec_f (by omega)), fun ac5 wd5 FF5 MM5 => then_n ?_⟩))
            refine wp_ret ?_
            repeat first | refine then_ret ?_ | refine inb_ret ?_
            exact (ret_fr FF5 0 Tryd.results10 rfl ⟨rfl, MM5.below⟩)
        · skip
          refine wp_seq (rg_seq FF1 MM1 [o_, l_ 0 (.int .i64 (b : Int)), w_ 6, o_, o_, l_ 0 (.int .i64 (b : Int)), o_, l_ 0 (.int .i64 (a : Int)), w_ 6, o_, o_, o_, l_ 0 (.int .i64 (a : Int)), w_ 6, o_, o_, o_, l_ 0 (.int .i64 (r : Int)), u_ 4 (.bool false), o_, o_, o_, o_, o_, o_, o_, o_, o_, o_, o_, o_, o_, o_, o_, o_, o_, o_, o_, o_, o_, o_, o_, o_, o_, o_, o_] [2] (fun Kt => bq = bq ∧ (#[.int .i64 (a : Int), .int .i64 (b : Int), .int .i64 (r : Int), .int .i64 (m : Int)] : Array Value)[1]? = some (.int .i64 (b : Int)) ∧ b ≥ ((1 : Nat) : Int) ∧ bq = bq ∧ (#[.int .i64 (a : Int), .int .i64 (b : Int), .int .i64 (r : Int), .int .i64 (m : Int)] : Array Value)[1]? = some (.int .i64 (b : Int)) ∧ bq = bq ∧ (#[.int .i64 (a : Int), .int .i64 (b : Int), .int .i64 (r : Int), .int .i64 (m : Int)] : Array Value)[0]? = some (.int .i64 (a : Int)) ∧ b < a ∧ bq = bq ∧ (#[.int .i64 (a : Int), .int .i64 (b : Int), .int .i64 (r : Int), .int .i64 (m : Int)] : Array Value)[0]? = some (.int .i64 (a : Int)) ∧ a ≤ ((16 : Nat) : Int) ∧ bq = bq ∧ (#[.int .i64 (a : Int), .int .i64 (b : Int), .int .i64 (r : Int), .int .i64 (m : Int)] : Array Value)[2]? = some (.int .i64 (r : Int)) ∧ Value.bool (decide (r ≥ ((0 : Nat) : Int))) = .bool false ∧ Kt [(2, .bool false)] [(bq, oC #[.int .i64 (a : Int), .int .i64 (b : Int), .int .i64 (r : Int), .int .i64 (m : Int)] 27)]) (by kernel_rfl) (fun _ => by kernel_rfl) (⟨rfl, rfl, (by omega), rfl, rfl, rfl, rfl, (by omega), rfl, rfl, (by omega), rfl, rfl, (dec_f (by omega)), fun ac6 wd6 FF6 MM6 => then_n ?_⟩))
          refine wp_ret ?_
          repeat first | refine then_ret ?_ | refine inb_ret ?_
          exact (ret_fr FF6 0 Tryd.results10 rfl ⟨rfl, MM6.below⟩)
      · skip
        refine wp_seq (rg_seq FF1 MM1 [o_, l_ 0 (.int .i64 (b : Int)), w_ 6, o_, o_, l_ 0 (.int .i64 (b : Int)), o_, l_ 0 (.int .i64 (a : Int)), w_ 6, o_, o_, o_, l_ 0 (.int .i64 (a : Int)), u_ 4 (.bool false), o_, o_, o_, o_, o_, o_, o_, o_, o_, o_, o_, o_, o_, o_, o_, o_, o_, o_, o_, o_, o_, o_, o_, o_, o_, o_, o_, o_, o_, o_, o_, o_] [2] (fun Kt => bq = bq ∧ (#[.int .i64 (a : Int), .int .i64 (b : Int), .int .i64 (r : Int), .int .i64 (m : Int)] : Array Value)[1]? = some (.int .i64 (b : Int)) ∧ b ≥ ((1 : Nat) : Int) ∧ bq = bq ∧ (#[.int .i64 (a : Int), .int .i64 (b : Int), .int .i64 (r : Int), .int .i64 (m : Int)] : Array Value)[1]? = some (.int .i64 (b : Int)) ∧ bq = bq ∧ (#[.int .i64 (a : Int), .int .i64 (b : Int), .int .i64 (r : Int), .int .i64 (m : Int)] : Array Value)[0]? = some (.int .i64 (a : Int)) ∧ b < a ∧ bq = bq ∧ (#[.int .i64 (a : Int), .int .i64 (b : Int), .int .i64 (r : Int), .int .i64 (m : Int)] : Array Value)[0]? = some (.int .i64 (a : Int)) ∧ Value.bool (decide (a ≤ ((16 : Nat) : Int))) = .bool false ∧ Kt [(2, .bool false)] [(bq, oC #[.int .i64 (a : Int), .int .i64 (b : Int), .int .i64 (r : Int), .int .i64 (m : Int)] 27)]) (by kernel_rfl) (fun _ => by kernel_rfl) (⟨rfl, rfl, (by omega), rfl, rfl, rfl, rfl, (by omega), rfl, rfl, (dec_f (by omega)), fun ac7 wd7 FF7 MM7 => then_n ?_⟩))
        refine wp_ret ?_
        repeat first | refine then_ret ?_ | refine inb_ret ?_
        exact (ret_fr FF7 0 Tryd.results10 rfl ⟨rfl, MM7.below⟩)
    · skip
      refine wp_seq (rg_seq FF1 MM1 [o_, l_ 0 (.int .i64 (b : Int)), w_ 6, o_, o_, l_ 0 (.int .i64 (b : Int)), o_, l_ 0 (.int .i64 (a : Int)), u_ 4 (.bool false), o_, o_, o_, o_, o_, o_, o_, o_, o_, o_, o_, o_, o_, o_, o_, o_, o_, o_, o_, o_, o_, o_, o_, o_, o_, o_, o_, o_, o_, o_, o_, o_, o_, o_, o_, o_, o_] [2] (fun Kt => bq = bq ∧ (#[.int .i64 (a : Int), .int .i64 (b : Int), .int .i64 (r : Int), .int .i64 (m : Int)] : Array Value)[1]? = some (.int .i64 (b : Int)) ∧ b ≥ ((1 : Nat) : Int) ∧ bq = bq ∧ (#[.int .i64 (a : Int), .int .i64 (b : Int), .int .i64 (r : Int), .int .i64 (m : Int)] : Array Value)[1]? = some (.int .i64 (b : Int)) ∧ bq = bq ∧ (#[.int .i64 (a : Int), .int .i64 (b : Int), .int .i64 (r : Int), .int .i64 (m : Int)] : Array Value)[0]? = some (.int .i64 (a : Int)) ∧ Value.bool (decide (b < a)) = .bool false ∧ Kt [(2, .bool false)] [(bq, oC #[.int .i64 (a : Int), .int .i64 (b : Int), .int .i64 (r : Int), .int .i64 (m : Int)] 27)]) (by kernel_rfl) (fun _ => by kernel_rfl) (⟨rfl, rfl, (by omega), rfl, rfl, rfl, rfl, (dec_f (by omega)), fun ac8 wd8 FF8 MM8 => then_n ?_⟩))
      refine wp_ret ?_
      repeat first | refine then_ret ?_ | refine inb_ret ?_
      exact (ret_fr FF8 0 Tryd.results10 rfl ⟨rfl, MM8.below⟩)
  · skip
    refine wp_seq (rg_seq FF1 MM1 [o_, l_ 0 (.int .i64 (b : Int)), u_ 4 (.bool false), o_, o_, o_, o_, o_, o_, o_, o_, o_, o_, o_, o_, o_, o_, o_, o_, o_, o_, o_, o_, o_, o_, o_, o_, o_, o_, o_, o_, o_, o_, o_, o_, o_, o_, o_, o_, o_, o_, o_, o_, o_, o_, o_] [2] (fun Kt => bq = bq ∧ (#[.int .i64 (a : Int), .int .i64 (b : Int), .int .i64 (r : Int), .int .i64 (m : Int)] : Array Value)[1]? = some (.int .i64 (b : Int)) ∧ Value.bool (decide (b ≥ ((1 : Nat) : Int))) = .bool false ∧ Kt [(2, .bool false)] [(bq, oC #[.int .i64 (a : Int), .int .i64 (b : Int), .int .i64 (r : Int), .int .i64 (m : Int)] 27)]) (by kernel_rfl) (fun _ => by kernel_rfl) (⟨rfl, rfl, (dec_f (by omega)), fun ac9 wd9 FF9 MM9 => then_n ?_⟩))
    refine wp_ret ?_
    repeat first | refine then_ret ?_ | refine inb_ret ?_
    exact (ret_fr FF9 0 Tryd.results10 rfl ⟨rfl, MM9.below⟩)
set_option maxRecDepth 100000 in
theorem qleast_any (a b r m : Nat) (hk : TOk a b r m)  (w0 : World) :
    Calls Tryd.prog 12 #[.agg #[iN a, iN b, iN r, iN m]] w0 fun e w' => e = .returned (iN (m - r)) ∧ Below w0.heap.size w0 w' := by
  have ⟨k1, k2, k3, k4, k5⟩ := hk
  refine enter_fr Tryd.func12 rfl Tryd.ntmps12 (by simp) fun ac (FF : Fr 8 ac [(0, aG #[iN a, iN b, iN r, iN m])]) => ?_
  have MM := MemS.start w0
  refine wp_seq (rg_seq FF MM [o_, o_] [1, 2] (fun Kt => ∀ bq, Kt [(2, iN 0), (1, pT bq)] [(bq, oC #[iN a, iN b, iN r, iN m] 27)]) (by kernel_rfl) (fun _ => by kernel_rfl) (fun bq => fun ac1 wd1 FF1 MM1 => then_n ?_))
  refine wp_seq (rg_seq FF1 MM1 [o_, l_ 0 (iN m), o_, l_ 0 (iN r), o_, o_] [2] (fun Kt => bq = bq ∧ (#[iN a, iN b, iN r, iN m] : Array Value)[3]? = some (iN m) ∧ bq = bq ∧ (#[iN a, iN b, iN r, iN m] : Array Value)[2]? = some (iN r) ∧ r ≤ m ∧ m - r < 9223372036854775808 ∧ Kt [(2, iN (m - r))] [(bq, oC #[iN a, iN b, iN r, iN m] 27)]) (by kernel_rfl) (fun _ => by kernel_rfl) (⟨rfl, rfl, rfl, rfl, (by omega), (by omega), fun ac2 wd2 FF2 MM2 => then_n ?_⟩))
  refine wp_ret ?_
  repeat first | refine then_ret ?_ | refine inb_ret ?_
  exact (ret_fr FF2 0 Tryd.results12 rfl ⟨rfl, MM2.below⟩)
set_option maxRecDepth 100000 in
theorem qmost_any (a b r m : Nat) (hk : TOk a b r m)  (w0 : World) :
    Calls Tryd.prog 14 #[.agg #[iN a, iN b, iN r, iN m]] w0 fun e w' => e = .returned (iN (m + r)) ∧ Below w0.heap.size w0 w' := by
  have ⟨k1, k2, k3, k4, k5⟩ := hk
  refine enter_fr Tryd.func14 rfl Tryd.ntmps14 (by simp) fun ac (FF : Fr 8 ac [(0, aG #[iN a, iN b, iN r, iN m])]) => ?_
  have MM := MemS.start w0
  refine wp_seq (rg_seq FF MM [o_, o_] [1, 2] (fun Kt => ∀ bq, Kt [(2, iN 0), (1, pT bq)] [(bq, oC #[iN a, iN b, iN r, iN m] 27)]) (by kernel_rfl) (fun _ => by kernel_rfl) (fun bq => fun ac1 wd1 FF1 MM1 => then_n ?_))
  refine wp_seq (rg_seq FF1 MM1 [o_, l_ 0 (iN m), o_, l_ 0 (iN r), o_, o_] [2] (fun Kt => bq = bq ∧ (#[iN a, iN b, iN r, iN m] : Array Value)[3]? = some (iN m) ∧ bq = bq ∧ (#[iN a, iN b, iN r, iN m] : Array Value)[2]? = some (iN r) ∧ m + r < 9223372036854775808 ∧ Kt [(2, iN (m + r))] [(bq, oC #[iN a, iN b, iN r, iN m] 27)]) (by kernel_rfl) (fun _ => by kernel_rfl) (⟨rfl, rfl, rfl, rfl, (by omega), fun ac2 wd2 FF2 MM2 => then_n ?_⟩))
  refine wp_ret ?_
  repeat first | refine then_ret ?_ | refine inb_ret ?_
  exact (ret_fr FF2 0 Tryd.results14 rfl ⟨rfl, MM2.below⟩)
set_option maxRecDepth 100000 in
theorem qweight_lo (a b r m : Nat) (hk : TOk a b r m) (n : Int) (hn : n < (m : Int) - r) (_h1 : -9223372036854775808 ≤ n) (w0 : World) :
    Calls Tryd.prog 19 #[.agg #[iN a, iN b, iN r, iN m], .int .i64 (n : Int)] w0 fun e w' => e = .returned (sB []) ∧ Below w0.heap.size w0 w' := by
  have ⟨k1, k2, k3, k4, k5⟩ := hk
  refine enter_fr Tryd.func19 rfl Tryd.ntmps19 (by simp) fun ac (FF : Fr 40 ac [(0, aG #[iN a, iN b, iN r, iN m]), (1, .int .i64 (n : Int))]) => ?_
  have MM := MemS.start w0
  refine wp_seq (rg_seq FF MM [o_, o_] [1, 2, 4] (fun Kt => ∀ bq, Kt [(4, sB []), (2, pT bq), (1, .int .i64 (n : Int))] [(bq, oC #[iN a, iN b, iN r, iN m] 27)]) (by kernel_rfl) (fun _ => by kernel_rfl) (fun bq => fun ac1 wd1 FF1 MM1 => then_n ?_))
  refine wp_seq ?_
  refine wp_seq (rg_seq FF1 MM1 [o_, b_ 0, t_ (iN (m - r)), w_ 6, o_, o_, o_, o_, o_, o_] [4, 2, 1, 15] (fun Kt => bq = bq ∧ (#[iN a, iN b, iN r, iN m] : Array Value).size = 4 ∧ CallP Tryd.prog 12 [aG #[iN a, iN b, iN r, iN m]] [] (iN (m - r)) ∧ n < ((m - r : Nat) : Int) ∧ Kt [(15, .bool true), (4, sB []), (2, pT bq), (1, .int .i64 (n : Int))] [(bq, oC #[iN a, iN b, iN r, iN m] 27)]) (by kernel_rfl) (fun _ => by kernel_rfl) (⟨rfl, rfl, (callP_of en_qleast (qleast_any a b r m hk) _), (by omega), fun ac2 wd2 FF2 MM2 => then_n ?_⟩))
  refine wp_cond_true (FF2.ev 0 rfl) ?_
  refine wp_seq (rg_seq FF2 MM2 [o_] [4, 2, 1] (fun Kt => Kt [(4, sB []), (2, pT bq), (1, .int .i64 (n : Int))] [(bq, oC #[iN a, iN b, iN r, iN m] 27)]) (by kernel_rfl) (fun _ => by kernel_rfl) (fun ac3 wd3 FF3 MM3 => then_n ?_))
  refine wp_ret ?_
  repeat first | refine then_ret ?_ | refine inb_ret ?_
  exact (ret_fr FF3 0 Tryd.results19 rfl ⟨rfl, MM3.below⟩)
set_option maxRecDepth 100000 in
theorem qweight_hi (a b r m : Nat) (hk : TOk a b r m) (n : Int) (hn : n > (m : Int) + r) (_h2 : n < 9223372036854775808) (w0 : World) :
    Calls Tryd.prog 19 #[.agg #[iN a, iN b, iN r, iN m], .int .i64 (n : Int)] w0 fun e w' => e = .returned (sB []) ∧ Below w0.heap.size w0 w' := by
  have ⟨k1, k2, k3, k4, k5⟩ := hk
  refine enter_fr Tryd.func19 rfl Tryd.ntmps19 (by simp) fun ac (FF : Fr 40 ac [(0, aG #[iN a, iN b, iN r, iN m]), (1, .int .i64 (n : Int))]) => ?_
  have MM := MemS.start w0
  refine wp_seq (rg_seq FF MM [o_, o_] [1, 2, 4] (fun Kt => ∀ bq, Kt [(4, sB []), (2, pT bq), (1, .int .i64 (n : Int))] [(bq, oC #[iN a, iN b, iN r, iN m] 27)]) (by kernel_rfl) (fun _ => by kernel_rfl) (fun bq => fun ac1 wd1 FF1 MM1 => then_n ?_))
  refine wp_seq ?_
  refine wp_seq (rg_seq FF1 MM1 [o_, b_ 0, t_ (iN (m - r)), u_ 4 (.bool false), o_, o_, b_ 0, t_ (iN (m + r)), w_ 6, o_] [4, 2, 1, 15] (fun Kt => bq = bq ∧ (#[iN a, iN b, iN r, iN m] : Array Value).size = 4 ∧ CallP Tryd.prog 12 [aG #[iN a, iN b, iN r, iN m]] [] (iN (m - r)) ∧ Value.bool (decide (n < ((m - r : Nat) : Int))) = .bool false ∧ bq = bq ∧ (#[iN a, iN b, iN r, iN m] : Array Value).size = 4 ∧ CallP Tryd.prog 14 [aG #[iN a, iN b, iN r, iN m]] [] (iN (m + r)) ∧ n > ((m + r : Nat) : Int) ∧ Kt [(15, .bool true), (4, sB []), (2, pT bq), (1, .int .i64 (n : Int))] [(bq, oC #[iN a, iN b, iN r, iN m] 27)]) (by kernel_rfl) (fun _ => by kernel_rfl) (⟨rfl, rfl, (callP_of en_qleast (qleast_any a b r m hk) _), (dec_f (by omega)), rfl, rfl, (callP_of en_qmost (qmost_any a b r m hk) _), (by omega), fun ac2 wd2 FF2 MM2 => then_n ?_⟩))
  refine wp_cond_true (FF2.ev 0 rfl) ?_
  refine wp_seq (rg_seq FF2 MM2 [o_] [4, 2, 1] (fun Kt => Kt [(4, sB []), (2, pT bq), (1, .int .i64 (n : Int))] [(bq, oC #[iN a, iN b, iN r, iN m] 27)]) (by kernel_rfl) (fun _ => by kernel_rfl) (fun ac3 wd3 FF3 MM3 => then_n ?_))
  refine wp_ret ?_
  repeat first | refine then_ret ?_ | refine inb_ret ?_
  exact (ret_fr FF3 0 Tryd.results19 rfl ⟨rfl, MM3.below⟩)
set_option maxRecDepth 100000 in
theorem qweight_up (a b r m : Nat) (hk : TOk a b r m) (d : Nat) (hd : d ≤ r) (w0 : World) :
    Calls Tryd.prog 19 #[.agg #[iN a, iN b, iN r, iN m], iN (m + d)] w0 fun e w' => e = .returned (sB (minB (b ^ d * a ^ (r - d)))) ∧ Below w0.heap.size w0 w' := by
  have ⟨k1, k2, k3, k4, k5⟩ := hk
  refine enter_fr Tryd.func19 rfl Tryd.ntmps19 (by simp) fun ac (FF : Fr 40 ac [(0, aG #[iN a, iN b, iN r, iN m]), (1, iN (m + d))]) => ?_
  have MM := MemS.start w0
  refine wp_seq (rg_seq FF MM [o_, o_] [1, 2, 4] (fun Kt => ∀ bq, Kt [(4, sB []), (2, pT bq), (1, iN (m + d))] [(bq, oC #[iN a, iN b, iN r, iN m] 27)]) (by kernel_rfl) (fun _ => by kernel_rfl) (fun bq => fun ac1 wd1 FF1 MM1 => then_n ?_))
  refine wp_seq ?_
  refine wp_seq (rg_seq FF1 MM1 [o_, b_ 0, t_ (iN (m - r)), w_ 3, o_, o_, b_ 0, t_ (iN (m + r)), w_ 3, o_] [4, 2, 1, 15] (fun Kt => bq = bq ∧ (#[iN a, iN b, iN r, iN m] : Array Value).size = 4 ∧ CallP Tryd.prog 12 [aG #[iN a, iN b, iN r, iN m]] [] (iN (m - r)) ∧ ¬ ((m + d) < (m - r)) ∧ bq = bq ∧ (#[iN a, iN b, iN r, iN m] : Array Value).size = 4 ∧ CallP Tryd.prog 14 [aG #[iN a, iN b, iN r, iN m]] [] (iN (m + r)) ∧ ¬ ((m + d) > (m + r)) ∧ Kt [(15, .bool false), (4, sB []), (2, pT bq), (1, iN (m + d))] [(bq, oC #[iN a, iN b, iN r, iN m] 27)]) (by kernel_rfl) (fun _ => by kernel_rfl) (⟨rfl, rfl, (callP_of en_qleast (qleast_any a b r m hk) _), (by omega), rfl, rfl, (callP_of en_qmost (qmost_any a b r m hk) _), (by omega), fun ac2 wd2 FF2 MM2 => then_n ?_⟩))
  refine wp_cond_false (FF2.ev 0 rfl) ?_
  refine wp_skip ?_
  refine then_n ?_
  refine wp_seq (rg_seq FF2 MM2 [o_, o_, l_ 0 (iN m), t_ (iN d), o_] [4, 2, 1, 5] (fun Kt => bq = bq ∧ (#[iN a, iN b, iN r, iN m] : Array Value)[3]? = some (iN m) ∧ m ≤ (m + d) ∧ (m + d) - m < 9223372036854775808 ∧ iN ((m + d) - m) = iN d ∧ Kt [(5, iN d), (4, sB []), (2, pT bq), (1, iN (m + d))] [(bq, oC #[iN a, iN b, iN r, iN m] 27)]) (by kernel_rfl) (fun _ => by kernel_rfl) (⟨rfl, rfl, (by omega), (by omega), (vI (by omega)), fun ac3 wd3 FF3 MM3 => then_n ?_⟩))
  refine wp_seq ?_
  refine wp_seq (rg_seq FF3 MM3 [o_, w_ 3] [5, 4, 2, 1, 21] (fun Kt => ¬ (d < 0) ∧ Kt [(21, .bool false), (5, iN d), (4, sB []), (2, pT bq), (1, iN (m + d))] [(bq, oC #[iN a, iN b, iN r, iN m] 27)]) (by kernel_rfl) (fun _ => by kernel_rfl) (⟨(by omega), fun ac4 wd4 FF4 MM4 => then_n ?_⟩))
  refine wp_cond_false (FF4.ev 0 rfl) ?_
  refine wp_skip ?_
  refine then_n ?_
  refine wp_seq (rg_draw FF4 MM4 [.inl (.pointer (some ⟨bq, 1, none⟩)), .inl (iN b), .inl (iW b), .inl (sB (minB b)), .inl (iN d), .inl (sB (minB (b ^ d))), .inl (pT bq), .inl (iN a), .inl (iW a), .inl (sB (minB a)), .inl (.pointer (some ⟨bq, 2, none⟩)), .inl (iN r), .inl (iN d), .inl (iN (r - d)), .inl (sB (minB (a ^ (r - d)))), .inl (sB (minB ((b ^ d) * (a ^ (r - d))))), .inl (sB (minB ((b ^ d) * (a ^ (r - d)))))] [] [o_, l_ 0 (iN b), w_ 1, t_ (sB (minB b)), o_, t_ (sB (minB (b ^ d))), o_, l_ 0 (iN a), w_ 1, t_ (sB (minB a)), o_, l_ 0 (iN r), o_, o_, t_ (sB (minB (a ^ (r - d)))), t_ (sB (minB ((b ^ d) * (a ^ (r - d))))), o_] [] [5, 4, 2, 1] (fun nb => [bq = bq, (#[iN a, iN b, iN r, iN m] : Array Value)[1]? = some (iN b), b < 18446744073709551616, CallP Tryd.prog 39 [iW b] [] (sB (minB b)), CallP Tryd.prog 42 [sB (minB b), iN d] [] (sB (minB (b ^ d))), bq = bq, (#[iN a, iN b, iN r, iN m] : Array Value)[0]? = some (iN a), a < 18446744073709551616, CallP Tryd.prog 39 [iW a] [] (sB (minB a)), bq = bq, (#[iN a, iN b, iN r, iN m] : Array Value)[2]? = some (iN r), d ≤ r, r - d < 9223372036854775808, CallP Tryd.prog 42 [sB (minB a), iN (r - d)] [] (sB (minB (a ^ (r - d)))), CallP Tryd.prog 41 [sB (minB (b ^ d)), sB (minB (a ^ (r - d)))] [] (sB (minB ((b ^ d) * (a ^ (r - d)))))]) (fun nb Kt => Kt [(4, sB (minB ((b ^ d) * (a ^ (r - d))))), (5, iN d), (2, pT bq), (1, iN (m + d))] [(bq, oC #[iN a, iN b, iN r, iN m] 27)]) (by kernel_rfl) (by kernel_rfl) (by kernel_rfl) (fun _ => by kernel_rfl) (fun _ _ => by kernel_rfl) trivial (fun nb => ⟨rfl, rfl, (by omega), (callP_of en_rof (of_any b (by omega)) _), (callP_of en_rpow (pow8_any b d (sz16 (by omega)) (by omega) (.inr (by omega))) _), rfl, rfl, (by omega), (callP_of en_rof (of_any a (by omega)) _), rfl, rfl, (by omega), (by omega), (callP_of en_rpow (pow8_any a (r - d) (sz16 (by omega)) (by omega) (.inr (by omega))) _), (callP_of en_rmul (mul8_any (b ^ d) (a ^ (r - d)) (by have := szs (pow_lt16 (a := b) (n := d) (by omega) (by omega)); have := szs (pow_lt16 (a := a) (n := r - d) (by omega) (by omega)); omega)) _), trivial⟩) (fun nb => fun ac5 wd5 FF5 MM5 => then_n ?_))
  refine wp_ret ?_
  repeat first | refine then_ret ?_ | refine inb_ret ?_
  exact (ret_fr FF5 0 Tryd.results19 rfl ⟨rfl, MM5.below⟩)
set_option maxRecDepth 100000 in
theorem qweight_dn (a b r m : Nat) (hk : TOk a b r m) (d : Nat) (hd0 : 0 < d) (hd : d ≤ r) (w0 : World) :
    Calls Tryd.prog 19 #[.agg #[iN a, iN b, iN r, iN m], iN (m - d)] w0 fun e w' => e = .returned (sB (minB (b ^ d * a ^ (r - d)))) ∧ Below w0.heap.size w0 w' := by
  have ⟨k1, k2, k3, k4, k5⟩ := hk
  refine enter_fr Tryd.func19 rfl Tryd.ntmps19 (by simp) fun ac (FF : Fr 40 ac [(0, aG #[iN a, iN b, iN r, iN m]), (1, iN (m - d))]) => ?_
  have MM := MemS.start w0
  refine wp_seq (rg_seq FF MM [o_, o_] [1, 2, 4] (fun Kt => ∀ bq, Kt [(4, sB []), (2, pT bq), (1, iN (m - d))] [(bq, oC #[iN a, iN b, iN r, iN m] 27)]) (by kernel_rfl) (fun _ => by kernel_rfl) (fun bq => fun ac1 wd1 FF1 MM1 => then_n ?_))
  refine wp_seq ?_
  refine wp_seq (rg_seq FF1 MM1 [o_, b_ 0, t_ (iN (m - r)), w_ 3, o_, o_, b_ 0, t_ (iN (m + r)), w_ 3, o_] [4, 2, 1, 15] (fun Kt => bq = bq ∧ (#[iN a, iN b, iN r, iN m] : Array Value).size = 4 ∧ CallP Tryd.prog 12 [aG #[iN a, iN b, iN r, iN m]] [] (iN (m - r)) ∧ ¬ ((m - d) < (m - r)) ∧ bq = bq ∧ (#[iN a, iN b, iN r, iN m] : Array Value).size = 4 ∧ CallP Tryd.prog 14 [aG #[iN a, iN b, iN r, iN m]] [] (iN (m + r)) ∧ ¬ ((m - d) > (m + r)) ∧ Kt [(15, .bool false), (4, sB []), (2, pT bq), (1, iN (m - d))] [(bq, oC #[iN a, iN b, iN r, iN m] 27)]) (by kernel_rfl) (fun _ => by kernel_rfl) (⟨rfl, rfl, (callP_of en_qleast (qleast_any a b r m hk) _), (by omega), rfl, rfl, (callP_of en_qmost (qmost_any a b r m hk) _), (by omega), fun ac2 wd2 FF2 MM2 => then_n ?_⟩))
  refine wp_cond_false (FF2.ev 0 rfl) ?_
  refine wp_skip ?_
  refine then_n ?_
  refine wp_seq (rg_seq FF2 MM2 [o_, o_, l_ 0 (iN m), u_ 4 (.int .i64 (-((d : Nat) : Int) : Int)), o_] [4, 2, 1, 5] (fun Kt => bq = bq ∧ (#[iN a, iN b, iN r, iN m] : Array Value)[3]? = some (iN m) ∧ -(9223372036854775808 : Int) ≤ ((m - d : Nat) : Int) - ((m : Nat) : Int) ∧ ((m - d : Nat) : Int) - ((m : Nat) : Int) < (9223372036854775808 : Nat) ∧ Value.int .i64 (((m - d : Nat) : Int) - ((m : Nat) : Int) : Int) = .int .i64 (-((d : Nat) : Int) : Int) ∧ Kt [(5, .int .i64 (-((d : Nat) : Int) : Int)), (4, sB []), (2, pT bq), (1, iN (m - d))] [(bq, oC #[iN a, iN b, iN r, iN m] 27)]) (by kernel_rfl) (fun _ => by kernel_rfl) (⟨rfl, rfl, (by omega), (by omega), (vZ (by omega)), fun ac3 wd3 FF3 MM3 => then_n ?_⟩))
  refine wp_seq ?_
  refine wp_seq (rg_seq FF3 MM3 [o_, w_ 6] [5, 4, 2, 1, 21] (fun Kt => (-((d : Nat) : Int)) < ((0 : Nat) : Int) ∧ Kt [(21, .bool true), (5, .int .i64 (-((d : Nat) : Int) : Int)), (4, sB []), (2, pT bq), (1, iN (m - d))] [(bq, oC #[iN a, iN b, iN r, iN m] 27)]) (by kernel_rfl) (fun _ => by kernel_rfl) (⟨(by omega), fun ac4 wd4 FF4 MM4 => then_n ?_⟩))
  refine wp_cond_true (FF4.ev 0 rfl) ?_
  refine rg_seq FF4 MM4 [o_, f_ (iN d), o_] [5, 4, 2, 1] (fun Kt => RunV Tryd.prog [(22, .int .i64 (-((d : Nat) : Int) : Int)), (21, .bool true), (5, .int .i64 (-((d : Nat) : Int) : Int)), (4, sB []), (2, pT bq), (1, iN (m - d))] [(bq, oC #[iN a, iN b, iN r, iN m] 27)] (opAt Tryd.f19 5 1) (iN d) ∧ Kt [(5, iN d), (4, sB []), (2, pT bq), (1, iN (m - d))] [(bq, oC #[iN a, iN b, iN r, iN m] 27)]) (by kernel_rfl) (fun _ => by kernel_rfl) (⟨(negn_ok (t := 3) (x := .tmp 22) (by kernel_rfl) rfl (by omega)), fun ac5 wd5 FF5 MM5 => ?_⟩)
  refine then_n ?_
  refine wp_seq (rg_draw FF5 MM5 [.inl (.pointer (some ⟨bq, 1, none⟩)), .inl (iN b), .inl (iW b), .inl (sB (minB b)), .inl (iN d), .inl (sB (minB (b ^ d))), .inl (pT bq), .inl (iN a), .inl (iW a), .inl (sB (minB a)), .inl (.pointer (some ⟨bq, 2, none⟩)), .inl (iN r), .inl (iN d), .inl (iN (r - d)), .inl (sB (minB (a ^ (r - d)))), .inl (sB (minB ((b ^ d) * (a ^ (r - d))))), .inl (sB (minB ((b ^ d) * (a ^ (r - d)))))] [] [o_, l_ 0 (iN b), w_ 1, t_ (sB (minB b)), o_, t_ (sB (minB (b ^ d))), o_, l_ 0 (iN a), w_ 1, t_ (sB (minB a)), o_, l_ 0 (iN r), o_, o_, t_ (sB (minB (a ^ (r - d)))), t_ (sB (minB ((b ^ d) * (a ^ (r - d))))), o_] [] [5, 4, 2, 1] (fun nb => [bq = bq, (#[iN a, iN b, iN r, iN m] : Array Value)[1]? = some (iN b), b < 18446744073709551616, CallP Tryd.prog 39 [iW b] [] (sB (minB b)), CallP Tryd.prog 42 [sB (minB b), iN d] [] (sB (minB (b ^ d))), bq = bq, (#[iN a, iN b, iN r, iN m] : Array Value)[0]? = some (iN a), a < 18446744073709551616, CallP Tryd.prog 39 [iW a] [] (sB (minB a)), bq = bq, (#[iN a, iN b, iN r, iN m] : Array Value)[2]? = some (iN r), d ≤ r, r - d < 9223372036854775808, CallP Tryd.prog 42 [sB (minB a), iN (r - d)] [] (sB (minB (a ^ (r - d)))), CallP Tryd.prog 41 [sB (minB (b ^ d)), sB (minB (a ^ (r - d)))] [] (sB (minB ((b ^ d) * (a ^ (r - d)))))]) (fun nb Kt => Kt [(4, sB (minB ((b ^ d) * (a ^ (r - d))))), (5, iN d), (2, pT bq), (1, iN (m - d))] [(bq, oC #[iN a, iN b, iN r, iN m] 27)]) (by kernel_rfl) (by kernel_rfl) (by kernel_rfl) (fun _ => by kernel_rfl) (fun _ _ => by kernel_rfl) trivial (fun nb => ⟨rfl, rfl, (by omega), (callP_of en_rof (of_any b (by omega)) _), (callP_of en_rpow (pow8_any b d (sz16 (by omega)) (by omega) (.inr (by omega))) _), rfl, rfl, (by omega), (callP_of en_rof (of_any a (by omega)) _), rfl, rfl, (by omega), (by omega), (callP_of en_rpow (pow8_any a (r - d) (sz16 (by omega)) (by omega) (.inr (by omega))) _), (callP_of en_rmul (mul8_any (b ^ d) (a ^ (r - d)) (by have := szs (pow_lt16 (a := b) (n := d) (by omega) (by omega)); have := szs (pow_lt16 (a := a) (n := r - d) (by omega) (by omega)); omega)) _), trivial⟩) (fun nb => fun ac6 wd6 FF6 MM6 => then_n ?_))
  refine wp_ret ?_
  repeat first | refine then_ret ?_ | refine inb_ret ?_
  exact (ret_fr FF6 0 Tryd.results19 rfl ⟨rfl, MM6.below⟩)
theorem qweight_any (a b r m : Nat) (hk : TOk a b r m) (n : Int) (h1 : -9223372036854775808 ≤ n) (h2 : n < 9223372036854775808) (w : World) : Calls Tryd.prog 19 #[.agg #[iN a, iN b, iN r, iN m], .int .i64 n] w fun e w' => e = .returned (sB (minB (wgZ a b r m n))) ∧ Below w.heap.size w w' := by
  have k4 := hk.2.2.2.1
  rcases Int.lt_or_le n ((m : Int) - r) with h | h
  · rw [wg_lo h, minB_zero]; exact qweight_lo a b r m hk n h h1 w
  · rcases Int.lt_or_le ((m : Int) + r) n with h' | h'
    · rw [wg_hi h', minB_zero]; exact qweight_hi a b r m hk n h' h2 w
    · rcases Int.lt_or_le n m with h3 | h3
      · obtain ⟨d, rfl, hd0, hd⟩ : ∃ d : Nat, n = ((m - d : Nat) : Int) ∧ 0 < d ∧ d ≤ r := ⟨(m - n).toNat, by omega, by omega, by omega⟩
        rw [wg_in h h', show (((m - d : Nat) : Int) - m).natAbs = d by omega]
        exact qweight_dn a b r m hk d hd0 hd w
      · obtain ⟨d, rfl, hd⟩ : ∃ d : Nat, n = ((m + d : Nat) : Int) ∧ d ≤ r := ⟨(n - m).toNat, by omega, by omega⟩
        rw [wg_in h h', show (((m + d : Nat) : Int) - m).natAbs = d by omega]
        exact qweight_up a b r m hk d hd w
end Go.Proofs.YtlljedijldkcbaaDoor
namespace Go.Proofs.YtlljedijldkcbaaDoor
open Go.RowKit
set_option maxRecDepth 100000 in
theorem qtotal_any (a b r m : Nat) (hk : TOk a b r m)  (w0 : World) :
    Calls Tryd.prog 17 #[.agg #[iN a, iN b, iN r, iN m]] w0 fun e w' => e = .returned (sB (minB (toN a b r m (2 * r + 1)))) ∧ Below w0.heap.size w0 w' := by
  have ⟨k1, k2, k3, k4, k5⟩ := hk
  refine enter_fr Tryd.func17 rfl Tryd.ntmps17 (by simp) fun ac (FF : Fr 20 ac [(0, aG #[iN a, iN b, iN r, iN m])]) => ?_
  have MM := MemS.start w0
  refine wp_seq (rg_seq FF MM [o_, o_] [1, 2] (fun Kt => ∀ bq, Kt [(2, sB []), (1, pT bq)] [(bq, oC #[iN a, iN b, iN r, iN m] 27)]) (by kernel_rfl) (fun _ => by kernel_rfl) (fun bq => fun ac1 wd1 FF1 MM1 => then_n ?_))
  refine wp_seq (rg_seq FF1 MM1 [t_ (sB (minB 0)), o_] [2, 1, 3] (fun Kt => CallP Tryd.prog 39 [iW 0] [] (sB (minB 0)) ∧ Kt [(3, sB (minB 0)), (2, sB []), (1, pT bq)] [(bq, oC #[iN a, iN b, iN r, iN m] 27)]) (by kernel_rfl) (fun _ => by kernel_rfl) (⟨(callP_of en_rof (of_any 0 (by decide)) _), fun ac2 wd2 FF2 MM2 => then_n ?_⟩))
  have FFz : Fr 20 ac2 [(3, sB (minB (toN a b r m 0))), (2, sB []), (1, pT bq)] := FF2
  refine wp_seq ?_
  refine wp_seq (rg_seq FFz MM2 [b_ 0, t_ (iN (m - r)), o_] [3, 2, 1, 4] (fun Kt => bq = bq ∧ (#[iN a, iN b, iN r, iN m] : Array Value).size = 4 ∧ CallP Tryd.prog 12 [aG #[iN a, iN b, iN r, iN m]] [] (iN (m - r)) ∧ Kt [(4, iN (m - r)), (3, sB (minB (toN a b r m 0))), (2, sB []), (1, pT bq)] [(bq, oC #[iN a, iN b, iN r, iN m] 27)]) (by kernel_rfl) (fun _ => by kernel_rfl) (⟨rfl, rfl, (callP_of en_qleast (qleast_any a b r m hk) _), fun ac3 wd3 FF3 MM3 => then_n ?_⟩))
  refine wp_for2 (fun a' w' => ∃ i : Nat, i ≤ 2 * r + 1 ∧ Fr 20 a' [(4, iN (m - r + i)), (3, sB (minB (toN a b r m i))), (2, sB []), (1, pT bq)] ∧ MemS (fun k => k < w0.heap.size) w0 w' [(bq, oC #[iN a, iN b, iN r, iN m] 27)] []) (fun a' _ => (m + r + 1 - cnt 4 a').toNat) ⟨0, Nat.zero_le _, FF3.pick [0, 1, 2, 3], MM3⟩ ?_
  rintro ac4 wd4 ⟨i, hi, FF4, MM4⟩
  have hc := cnt_of (FF4.get 0 rfl)
  refine rg_seq FF4 MM4 [o_, b_ 0, t_ (iN (m + r)), o_] [4, 3, 2, 1, 11] (fun Kt => bq = bq ∧ (#[iN a, iN b, iN r, iN m] : Array Value).size = 4 ∧ CallP Tryd.prog 14 [aG #[iN a, iN b, iN r, iN m]] [] (iN (m + r)) ∧ Kt [(11, .bool (decide ((m - r + i) ≤ (m + r)))), (4, iN (m - r + i)), (3, sB (minB (toN a b r m i))), (2, sB []), (1, pT bq)] [(bq, oC #[iN a, iN b, iN r, iN m] 27)]) (by kernel_rfl) (fun _ => by kernel_rfl) (⟨rfl, rfl, (callP_of en_qmost (qmost_any a b r m hk) _), fun ac5 wd5 FF5 MM5 => ?_⟩)
  by_cases hlt : (m - r + i) ≤ (m + r)
  · skip
    refine then_n (.inl ⟨(FF5.ev 0 rfl).trans (dec_t hlt), ?_⟩)
    have hi8 : i ≤ 8 := by omega
    have hB1 := to_le hk i
    have hB2 := wg_le hk ((m - r + i : Nat) : Int)
    refine rg_seq FF5 MM5 [o_, b_ 0, o_, t_ (sB (minB (wgZ a b r m ((m - r + i : Nat) : Int)))), t_ (sB (minB (toN a b r m (i + 1)))), o_] [4, 3, 2, 1] (fun Kt => bq = bq ∧ (#[iN a, iN b, iN r, iN m] : Array Value).size = 4 ∧ CallP Tryd.prog 19 [aG #[iN a, iN b, iN r, iN m], iN (m - r + i)] [] (sB (minB (wgZ a b r m ((m - r + i : Nat) : Int)))) ∧ CallP Tryd.prog 40 [sB (minB (toN a b r m i)), sB (minB (wgZ a b r m ((m - r + i : Nat) : Int)))] [] (sB (minB (toN a b r m (i + 1)))) ∧ Kt [(3, sB (minB (toN a b r m (i + 1)))), (4, iN (m - r + i)), (2, sB []), (1, pT bq)] [(bq, oC #[iN a, iN b, iN r, iN m] 27)]) (by kernel_rfl) (fun _ => by kernel_rfl) (⟨rfl, rfl, (callP_of en_qweight (qweight_any a b r m hk ((m - r + i : Nat) : Int) (by omega) (by omega)) _), (callP_of en_radd (add8_any (toN a b r m i) (wgZ a b r m ((m - r + i : Nat) : Int)) (by have := szs (N := toN a b r m i) (by omega); have := szs (N := wgZ a b r m ((m - r + i : Nat) : Int)) (by omega); omega)) _), fun ac6 wd6 FF6 MM6 => ?_⟩)
    refine inb_n (then_n ?_)
    refine rg_seq FF6 MM6 [o_, o_, o_] [3, 4, 2, 1] (fun Kt => (m - r + i) + 1 < 9223372036854775808 ∧ Kt [(4, iN ((m - r + i) + 1)), (3, sB (minB (toN a b r m (i + 1)))), (2, sB []), (1, pT bq)] [(bq, oC #[iN a, iN b, iN r, iN m] 27)]) (by kernel_rfl) (fun _ => by kernel_rfl) (⟨(by omega), fun ac7 wd7 FF7 MM7 => ?_⟩)
    have hd := cnt_of (FF7.get 0 rfl)
    refine then_n ⟨⟨i + 1, by omega, FF7.pick [0, 1, 2, 3], MM7⟩, ?_⟩
    rw [hc, hd]; omega
  · skip
    refine then_n (.inr ⟨(FF5.ev 0 rfl).trans (dec_f hlt), ?_⟩)
    obtain rfl : i = 2 * r + 1 := by omega
    refine then_n ?_
    refine wp_seq (rg_seq FF5 MM5 [o_, o_] [4, 3, 2, 1] (fun Kt => Kt [(2, sB (minB (toN a b r m (2 * r + 1)))), (4, iN (m - r + (2 * r + 1))), (3, sB (minB (toN a b r m (2 * r + 1)))), (1, pT bq)] [(bq, oC #[iN a, iN b, iN r, iN m] 27)]) (by kernel_rfl) (fun _ => by kernel_rfl) (fun ac8 wd8 FF8 MM8 => then_n ?_))
    refine wp_ret ?_
    repeat first | refine then_ret ?_ | refine inb_ret ?_
    exact (ret_fr FF8 0 Tryd.results17 rfl ⟨rfl, MM8.below⟩)
set_option maxRecDepth 100000 in
theorem qat_any (a b r m : Nat) (hk : TOk a b r m) (N : Nat) (hz : sz N < 100000) (w0 : World) :
    Calls Tryd.prog 23 #[.agg #[iN a, iN b, iN r, iN m], sB (minB N)] w0 fun e w' => e = .returned (.tuple #[iN (aN a b r m N), .bool (decide (N < toN a b r m (2 * r + 1)))]) ∧ Below w0.heap.size w0 w' := by
  have ⟨k1, k2, k3, k4, k5⟩ := hk
  refine enter_fr Tryd.func23 rfl Tryd.ntmps23 (by simp) fun ac (FF : Fr 27 ac [(0, aG #[iN a, iN b, iN r, iN m]), (1, sB (minB N))]) => ?_
  have MM := MemS.start w0
  refine wp_seq (rg_seq FF MM [o_, o_, o_] [1, 2, 4, 5] (fun Kt => ∀ bq, Kt [(5, .bool false), (4, iN 0), (2, pT bq), (1, sB (minB N))] [(bq, oC #[iN a, iN b, iN r, iN m] 27)]) (by kernel_rfl) (fun _ => by kernel_rfl) (fun bq => fun ac1 wd1 FF1 MM1 => then_n ?_))
  refine wp_seq (rg_seq FF1 MM1 [t_ (sB (minB 0)), o_] [5, 4, 2, 1, 6] (fun Kt => CallP Tryd.prog 39 [iW 0] [] (sB (minB 0)) ∧ Kt [(6, sB (minB 0)), (5, .bool false), (4, iN 0), (2, pT bq), (1, sB (minB N))] [(bq, oC #[iN a, iN b, iN r, iN m] 27)]) (by kernel_rfl) (fun _ => by kernel_rfl) (⟨(callP_of en_rof (of_any 0 (by decide)) _), fun ac2 wd2 FF2 MM2 => then_n ?_⟩))
  have FFz : Fr 27 ac2 [(6, sB (minB (toN a b r m 0))), (5, .bool false), (4, iN 0), (2, pT bq), (1, sB (minB N))] := FF2
  refine wp_seq ?_
  refine wp_seq (rg_seq FFz MM2 [b_ 0, t_ (iN (m - r)), o_] [6, 5, 4, 2, 1, 7] (fun Kt => bq = bq ∧ (#[iN a, iN b, iN r, iN m] : Array Value).size = 4 ∧ CallP Tryd.prog 12 [aG #[iN a, iN b, iN r, iN m]] [] (iN (m - r)) ∧ Kt [(7, iN (m - r)), (6, sB (minB (toN a b r m 0))), (5, .bool false), (4, iN 0), (2, pT bq), (1, sB (minB N))] [(bq, oC #[iN a, iN b, iN r, iN m] 27)]) (by kernel_rfl) (fun _ => by kernel_rfl) (⟨rfl, rfl, (callP_of en_qleast (qleast_any a b r m hk) _), fun ac3 wd3 FF3 MM3 => then_n ?_⟩))
  refine wp_for2 (fun a' w' => ∃ i : Nat, i ≤ 2 * r + 1 ∧ toN a b r m i ≤ N ∧ Fr 27 a' [(7, iN (m - r + i)), (6, sB (minB (toN a b r m i))), (2, pT bq), (1, sB (minB N))] ∧ MemS (fun k => k < w0.heap.size) w0 w' [(bq, oC #[iN a, iN b, iN r, iN m] 27)] []) (fun a' _ => (m + r + 1 - cnt 7 a').toNat) ⟨0, Nat.zero_le _, Nat.zero_le _, FF3.pick [0, 1, 4, 5], MM3⟩ ?_
  rintro ac4 wd4 ⟨i, hi, hle, FF4, MM4⟩
  have hc := cnt_of (FF4.get 0 rfl)
  refine rg_seq FF4 MM4 [o_, b_ 0, t_ (iN (m + r)), o_] [7, 6, 2, 1, 14] (fun Kt => bq = bq ∧ (#[iN a, iN b, iN r, iN m] : Array Value).size = 4 ∧ CallP Tryd.prog 14 [aG #[iN a, iN b, iN r, iN m]] [] (iN (m + r)) ∧ Kt [(14, .bool (decide ((m - r + i) ≤ (m + r)))), (7, iN (m - r + i)), (6, sB (minB (toN a b r m i))), (2, pT bq), (1, sB (minB N))] [(bq, oC #[iN a, iN b, iN r, iN m] 27)]) (by kernel_rfl) (fun _ => by kernel_rfl) (⟨rfl, rfl, (callP_of en_qmost (qmost_any a b r m hk) _), fun ac5 wd5 FF5 MM5 => ?_⟩)
  by_cases hlt : (m - r + i) ≤ (m + r)
  · skip
    refine then_n (.inl ⟨(FF5.ev 0 rfl).trans (dec_t hlt), ?_⟩)
    have hi8 : i ≤ 8 := by omega
    have hB1 := to_le hk i
    have hB2 := wg_le hk ((m - r + i : Nat) : Int)
    refine wp_seq (rg_seq FF5 MM5 [o_, b_ 0, o_, t_ (sB (minB (wgZ a b r m ((m - r + i : Nat) : Int)))), t_ (sB (minB (toN a b r m (i + 1)))), o_] [7, 6, 2, 1] (fun Kt => bq = bq ∧ (#[iN a, iN b, iN r, iN m] : Array Value).size = 4 ∧ CallP Tryd.prog 19 [aG #[iN a, iN b, iN r, iN m], iN (m - r + i)] [] (sB (minB (wgZ a b r m ((m - r + i : Nat) : Int)))) ∧ CallP Tryd.prog 40 [sB (minB (toN a b r m i)), sB (minB (wgZ a b r m ((m - r + i : Nat) : Int)))] [] (sB (minB (toN a b r m (i + 1)))) ∧ Kt [(6, sB (minB (toN a b r m (i + 1)))), (7, iN (m - r + i)), (2, pT bq), (1, sB (minB N))] [(bq, oC #[iN a, iN b, iN r, iN m] 27)]) (by kernel_rfl) (fun _ => by kernel_rfl) (⟨rfl, rfl, (callP_of en_qweight (qweight_any a b r m hk ((m - r + i : Nat) : Int) (by omega) (by omega)) _), (callP_of en_radd (add8_any (toN a b r m i) (wgZ a b r m ((m - r + i : Nat) : Int)) (by have := szs (N := toN a b r m i) (by omega); have := szs (N := wgZ a b r m ((m - r + i : Nat) : Int)) (by omega); omega)) _), fun ac6 wd6 FF6 MM6 => then_n ?_⟩))
    by_cases h4 : N < toN a b r m (i + 1)
    · skip
      refine wp_seq (rg_seq FF6 MM6 [o_, o_, t_ (.int .i64 (cmpN N (toN a b r m (i + 1)) : Int)), u_ 4 (.bool true)] [6, 7, 2, 1, 25] (fun Kt => CallP Tryd.prog 45 [sB (minB N), sB (minB (toN a b r m (i + 1)))] [] (.int .i64 (cmpN N (toN a b r m (i + 1)) : Int)) ∧ Value.bool (decide ((cmpN N (toN a b r m (i + 1))) < ((0 : Nat) : Int))) = .bool true ∧ Kt [(25, .bool true), (6, sB (minB (toN a b r m (i + 1)))), (7, iN (m - r + i)), (2, pT bq), (1, sB (minB N))] [(bq, oC #[iN a, iN b, iN r, iN m] 27)]) (by kernel_rfl) (fun _ => by kernel_rfl) (⟨(callP_of en_rcmp (cmp_any N (toN a b r m (i + 1)) (by have := to_le hk (i + 1); have := szs (N := toN a b r m (i + 1)) (by omega); omega)) _), (dec_t ((cmp_neg _ _).2 h4)), fun ac7 wd7 FF7 MM7 => then_n ?_⟩))
      refine wp_cond_true (FF7.ev 0 rfl) ?_
      refine wp_seq (rg_seq FF7 MM7 [o_, o_, o_] [6, 7, 2, 1, 4, 5] (fun Kt => Kt [(5, .bool true), (4, iN (m - r + i)), (6, sB (minB (toN a b r m (i + 1)))), (7, iN (m - r + i)), (2, pT bq), (1, sB (minB N))] [(bq, oC #[iN a, iN b, iN r, iN m] 27)]) (by kernel_rfl) (fun _ => by kernel_rfl) (fun ac8 wd8 FF8 MM8 => then_n ?_))
      refine wp_ret ?_
      repeat first | refine then_ret ?_ | refine inb_ret ?_
      exact (ret_tup2 FF8 1 0 Tryd.results23 rfl rfl (by rw [a_yes (by omega) hle h4, decide_eq_true (atw_lt (by omega) h4)]; exact ⟨rfl, MM8.below⟩))
    · skip
      refine wp_seq (rg_seq FF6 MM6 [o_, o_, t_ (.int .i64 (cmpN N (toN a b r m (i + 1)) : Int)), u_ 4 (.bool false)] [6, 7, 2, 1, 25] (fun Kt => CallP Tryd.prog 45 [sB (minB N), sB (minB (toN a b r m (i + 1)))] [] (.int .i64 (cmpN N (toN a b r m (i + 1)) : Int)) ∧ Value.bool (decide ((cmpN N (toN a b r m (i + 1))) < ((0 : Nat) : Int))) = .bool false ∧ Kt [(25, .bool false), (6, sB (minB (toN a b r m (i + 1)))), (7, iN (m - r + i)), (2, pT bq), (1, sB (minB N))] [(bq, oC #[iN a, iN b, iN r, iN m] 27)]) (by kernel_rfl) (fun _ => by kernel_rfl) (⟨(callP_of en_rcmp (cmp_any N (toN a b r m (i + 1)) (by have := to_le hk (i + 1); have := szs (N := toN a b r m (i + 1)) (by omega); omega)) _), (dec_f (fun h => h4 ((cmp_neg _ _).1 h))), fun ac9 wd9 FF9 MM9 => then_n ?_⟩))
      refine wp_cond_false (FF9.ev 0 rfl) ?_
      refine wp_skip ?_
      refine inb_n (then_n ?_)
      refine rg_seq FF9 MM9 [o_, o_, o_] [6, 7, 2, 1] (fun Kt => (m - r + i) + 1 < 9223372036854775808 ∧ Kt [(7, iN ((m - r + i) + 1)), (6, sB (minB (toN a b r m (i + 1)))), (2, pT bq), (1, sB (minB N))] [(bq, oC #[iN a, iN b, iN r, iN m] 27)]) (by kernel_rfl) (fun _ => by kernel_rfl) (⟨(by omega), fun ac10 wd10 FF10 MM10 => ?_⟩)
      have hd := cnt_of (FF10.get 0 rfl)
      refine then_n ⟨⟨i + 1, by omega, Nat.le_of_not_lt h4, FF10.pick [0, 1, 2, 3], MM10⟩, ?_⟩
      rw [hc, hd]; omega
  · skip
    refine then_n (.inr ⟨(FF5.ev 0 rfl).trans (dec_f hlt), ?_⟩)
    obtain rfl : i = 2 * r + 1 := by omega
    refine then_n ?_
    refine wp_seq (rg_seq FF5 MM5 [o_, o_] [7, 6, 2, 1, 4, 5] (fun Kt => Kt [(5, .bool false), (4, iN 0), (7, iN (m - r + (2 * r + 1))), (6, sB (minB (toN a b r m (2 * r + 1)))), (2, pT bq), (1, sB (minB N))] [(bq, oC #[iN a, iN b, iN r, iN m] 27)]) (by kernel_rfl) (fun _ => by kernel_rfl) (fun ac11 wd11 FF11 MM11 => then_n ?_))
    refine wp_ret ?_
    repeat first | refine then_ret ?_ | refine inb_ret ?_
    exact (ret_tup2 FF11 1 0 Tryd.results23 rfl rfl (by rw [a_no hle, decide_eq_false (Nat.not_lt.2 hle)]; exact ⟨rfl, MM11.below⟩))
theorem un_z {a b r m k : Nat} {X : List Nat} (hk : TOk a b r m) : sz (undN (toN a b r m (2 * r + 1)) (bsz (toN a b r m (2 * r + 1))) k X).1 < 100000 := Nat.lt_of_le_of_lt (sz_le (n := 3) (Nat.lt_of_lt_of_le (und_lt (bsz_ok _).1 k X) (Nat.le_trans (Nat.pow_le_pow_right (by decide) (tot_b2 hk)) (by decide +kernel)))) (by decide)
set_option maxRecDepth 100000 in
theorem qdraw_any (g : Nat) (a b r m : Nat) (hk : TOk a b r m) (X : List Nat) (u : Nat) (hX : ∀ i, X.getD i 0 < 256) (hu : u < 4611686018427000000) (k : Nat) (hk1 : 1 ≤ k) (hk2 : k ≤ 16) (w0 : World) (hg : w0.heap[g]? = some (RB X u)) :
    Calls Tryd.prog 27 #[.agg #[iN a, iN b, iN r, iN m], pT g, iN k] w0 fun e w' => e = .returned (.tuple #[iN (drN a b r m k (X.drop u)), iN ((uN a b r m k (X.drop u)).2.1)]) ∧ Turn g (RB X (u + (uN a b r m k (X.drop u)).2.2)) w0 w' := by
  have ⟨k1, k2, k3, k4, k5⟩ := hk
  refine enter_fr Tryd.func27 rfl Tryd.ntmps27 (by simp) fun ac (FF : Fr 31 ac [(0, aG #[iN a, iN b, iN r, iN m]), (1, pT g), (2, iN k)]) => ?_
  have MM : MemS (fun k => k < w0.heap.size ∧ ∀ x ∈ (g, oC #[sB X, iN u] 54) :: ([] : Blks), x.1 ≠ k) w0 w0 ((g, oC #[sB X, iN u] 54) :: ([] : Blks)) [] := MemS.startN (one_has hg) ⟨fun y hy => (nomatch hy), trivial⟩
  refine wp_seq (rg_seq FF MM [o_, o_, o_] [1, 2, 3, 6, 7] (fun Kt => ∀ bq, Kt [(7, iN 0), (6, iN 0), (3, pT bq), (1, pT g), (2, iN k)] ((bq, oC #[iN a, iN b, iN r, iN m] 27) :: (g, oC #[sB X, iN u] 54) :: ([] : Blks))) (by kernel_rfl) (fun _ => by kernel_rfl) (fun bq => fun ac1 wd1 FF1 MM1 => then_n ?_))
  refine wp_seq (rg_seq FF1 MM1 [o_, b_ 0, t_ (sB (minB (toN a b r m (2 * r + 1)))), o_, c_ (.tuple #[sB (minB ((undN (toN a b r m (2 * r + 1)) (bsz (toN a b r m (2 * r + 1))) k (X.drop u)).1)), iN ((undN (toN a b r m (2 * r + 1)) (bsz (toN a b r m (2 * r + 1))) k (X.drop u)).2.1)]) [(1, oC #[sB X, iN (u + (undN (toN a b r m (2 * r + 1)) (bsz (toN a b r m (2 * r + 1))) k (X.drop u)).2.2)] 54)], o_, o_, o_, o_, o_] [7, 6, 3, 8, 9] (fun Kt => bq = bq ∧ (#[iN a, iN b, iN r, iN m] : Array Value).size = 4 ∧ CallP Tryd.prog 17 [aG #[iN a, iN b, iN r, iN m]] [] (sB (minB (toN a b r m (2 * r + 1)))) ∧ CallU Tryd.prog 48 [pT g, sB (minB (toN a b r m (2 * r + 1))), iN k] ((bq, oC #[iN a, iN b, iN r, iN m] 27) :: (g, oC #[sB X, iN u] 54) :: ([] : Blks)) (.tuple #[sB (minB ((undN (toN a b r m (2 * r + 1)) (bsz (toN a b r m (2 * r + 1))) k (X.drop u)).1)), iN ((undN (toN a b r m (2 * r + 1)) (bsz (toN a b r m (2 * r + 1))) k (X.drop u)).2.1)]) [(1, oC #[sB X, iN (u + (undN (toN a b r m (2 * r + 1)) (bsz (toN a b r m (2 * r + 1))) k (X.drop u)).2.2)] 54)] ∧ Kt [(9, iN ((undN (toN a b r m (2 * r + 1)) (bsz (toN a b r m (2 * r + 1))) k (X.drop u)).2.1)), (8, sB (minB ((undN (toN a b r m (2 * r + 1)) (bsz (toN a b r m (2 * r + 1))) k (X.drop u)).1))), (7, iN 0), (6, iN 0), (3, pT bq)] ((bq, oC #[iN a, iN b, iN r, iN m] 27) :: (g, oC #[sB X, iN (u + (undN (toN a b r m (2 * r + 1)) (bsz (toN a b r m (2 * r + 1))) k (X.drop u)).2.2)] 54) :: ([] : Blks))) (by kernel_rfl) (fun _ => by kernel_rfl) (⟨rfl, rfl, (callP_of en_qtotal (qtotal_any a b r m hk) _), (callU_turn en_runder (g := g) (ob := RB X u) rfl fun w hg => by have h0 := runder_any g X u hX (by omega) (toN a b r m (2 * r + 1)) k (tot_b1 hk) (Nat.le_trans (tot_b2 hk) (by decide)) hk1 hk2 w hg; exact h0), fun ac2 wd2 FF2 MM2 => then_n ?_⟩))
  refine wp_seq ?_
  refine wp_seq (rg_seq FF2 MM2 [o_, o_] [9, 8, 7, 6, 3, 21] (fun Kt => Kt [(21, .bool (decide (((undN (toN a b r m (2 * r + 1)) (bsz (toN a b r m (2 * r + 1))) k (X.drop u)).2.1) ≠ 0))), (9, iN ((undN (toN a b r m (2 * r + 1)) (bsz (toN a b r m (2 * r + 1))) k (X.drop u)).2.1)), (8, sB (minB ((undN (toN a b r m (2 * r + 1)) (bsz (toN a b r m (2 * r + 1))) k (X.drop u)).1))), (7, iN 0), (6, iN 0), (3, pT bq)] ((bq, oC #[iN a, iN b, iN r, iN m] 27) :: (g, oC #[sB X, iN (u + (undN (toN a b r m (2 * r + 1)) (bsz (toN a b r m (2 * r + 1))) k (X.drop u)).2.2)] 54) :: ([] : Blks))) (by kernel_rfl) (fun _ => by kernel_rfl) (fun ac3 wd3 FF3 MM3 => then_n ?_))
  by_cases hs21 : ((undN (toN a b r m (2 * r + 1)) (bsz (toN a b r m (2 * r + 1))) k (X.drop u)).2.1) ≠ 0
  · refine wp_cond_true ((FF3.ev 0 rfl).trans (dec_t hs21)) ?_
    refine wp_seq (rg_seq FF3 MM3 [o_, o_, o_] [9, 8, 7, 6, 3] (fun Kt => Kt [(7, iN ((undN (toN a b r m (2 * r + 1)) (bsz (toN a b r m (2 * r + 1))) k (X.drop u)).2.1)), (6, iN 0), (9, iN ((undN (toN a b r m (2 * r + 1)) (bsz (toN a b r m (2 * r + 1))) k (X.drop u)).2.1)), (8, sB (minB ((undN (toN a b r m (2 * r + 1)) (bsz (toN a b r m (2 * r + 1))) k (X.drop u)).1))), (3, pT bq)] ((bq, oC #[iN a, iN b, iN r, iN m] 27) :: (g, oC #[sB X, iN (u + (undN (toN a b r m (2 * r + 1)) (bsz (toN a b r m (2 * r + 1))) k (X.drop u)).2.2)] 54) :: ([] : Blks))) (by kernel_rfl) (fun _ => by kernel_rfl) (fun ac4 wd4 FF4 MM4 => then_n ?_))
    refine wp_ret ?_
    repeat first | refine then_ret ?_ | refine inb_ret ?_
    exact (ret_tup2 FF4 1 0 Tryd.results27 rfl rfl (by rw [drN, uN, if_neg hs21]; exact ⟨rfl, MM4.turn (O := []) (fun i x hx => by simp at hx) 1 rfl (fun x hx => (nomatch hx))⟩))
  · refine wp_cond_false ((FF3.ev 0 rfl).trans (dec_f hs21)) ?_
    refine wp_skip ?_
    refine then_n ?_
    refine wp_seq (rg_seq FF3 MM3 [b_ 0, o_, t_ (.tuple #[iN (aN a b r m ((undN (toN a b r m (2 * r + 1)) (bsz (toN a b r m (2 * r + 1))) k (X.drop u)).1)), .bool (decide ((undN (toN a b r m (2 * r + 1)) (bsz (toN a b r m (2 * r + 1))) k (X.drop u)).1 < toN a b r m (2 * r + 1)))]), o_, o_, o_, o_, o_] [9, 7, 6, 3, 10] (fun Kt => bq = bq ∧ (#[iN a, iN b, iN r, iN m] : Array Value).size = 4 ∧ CallP Tryd.prog 23 [aG #[iN a, iN b, iN r, iN m], sB (minB ((undN (toN a b r m (2 * r + 1)) (bsz (toN a b r m (2 * r + 1))) k (X.drop u)).1))] [] (.tuple #[iN (aN a b r m ((undN (toN a b r m (2 * r + 1)) (bsz (toN a b r m (2 * r + 1))) k (X.drop u)).1)), .bool (decide ((undN (toN a b r m (2 * r + 1)) (bsz (toN a b r m (2 * r + 1))) k (X.drop u)).1 < toN a b r m (2 * r + 1)))]) ∧ Kt [(10, iN (aN a b r m ((undN (toN a b r m (2 * r + 1)) (bsz (toN a b r m (2 * r + 1))) k (X.drop u)).1))), (9, iN ((undN (toN a b r m (2 * r + 1)) (bsz (toN a b r m (2 * r + 1))) k (X.drop u)).2.1)), (7, iN 0), (6, iN 0), (3, pT bq)] ((bq, oC #[iN a, iN b, iN r, iN m] 27) :: (g, oC #[sB X, iN (u + (undN (toN a b r m (2 * r + 1)) (bsz (toN a b r m (2 * r + 1))) k (X.drop u)).2.2)] 54) :: ([] : Blks))) (by kernel_rfl) (fun _ => by kernel_rfl) (⟨rfl, rfl, (callP_of en_qat (qat_any a b r m hk ((undN (toN a b r m (2 * r + 1)) (bsz (toN a b r m (2 * r + 1))) k (X.drop u)).1) (un_z hk)) _), fun ac5 wd5 FF5 MM5 => then_n ?_⟩))
    refine wp_seq (rg_seq FF5 MM5 [o_, o_, o_, o_] [9, 7, 6, 3] (fun Kt => Kt [(7, iN ((undN (toN a b r m (2 * r + 1)) (bsz (toN a b r m (2 * r + 1))) k (X.drop u)).2.1)), (6, iN (aN a b r m ((undN (toN a b r m (2 * r + 1)) (bsz (toN a b r m (2 * r + 1))) k (X.drop u)).1))), (9, iN ((undN (toN a b r m (2 * r + 1)) (bsz (toN a b r m (2 * r + 1))) k (X.drop u)).2.1)), (3, pT bq)] ((bq, oC #[iN a, iN b, iN r, iN m] 27) :: (g, oC #[sB X, iN (u + (undN (toN a b r m (2 * r + 1)) (bsz (toN a b r m (2 * r + 1))) k (X.drop u)).2.2)] 54) :: ([] : Blks))) (by kernel_rfl) (fun _ => by kernel_rfl) (fun ac6 wd6 FF6 MM6 => then_n ?_))
    refine wp_ret ?_
    repeat first | refine then_ret ?_ | refine inb_ret ?_
    exact (ret_tup2 FF6 1 0 Tryd.results27 rfl rfl (by have hE : (undN (toN a b r m (2 * r + 1)) (bsz (toN a b r m (2 * r + 1))) k (X.drop u)).2.1 = 0 := Decidable.of_not_not hs21; rw [drN, uN, if_pos hE]; exact ⟨rfl, MM6.turn (O := []) (fun i x hx => by simp at hx) 1 rfl (fun x hx => (nomatch hx))⟩))
set_option maxRecDepth 100000 in
theorem qdraw_tlo (g : Nat) (a b r m : Nat) (hk : TOk a b r m) (t : Int) (hz : t < 1) (w0 : World) :
    Calls Tryd.prog 27 #[.agg #[iN a, iN b, iN r, iN m], pT g, .int .i64 t] w0 fun e w' => e = .returned (.tuple #[iN 0, iN 1]) ∧ Below w0.heap.size w0 w' := by
  have ⟨k1, k2, k3, k4, k5⟩ := hk
  refine enter_fr Tryd.func27 rfl Tryd.ntmps27 (by simp) fun ac (FF : Fr 31 ac [(0, aG #[iN a, iN b, iN r, iN m]), (1, pT g), (2, .int .i64 (t : Int))]) => ?_
  have MM := MemS.start w0
  refine wp_seq (rg_seq FF MM [o_, o_, o_] [1, 2, 3, 6, 7] (fun Kt => ∀ bq, Kt [(7, iN 0), (6, iN 0), (3, pT bq), (1, pT g), (2, .int .i64 (t : Int))] [(bq, oC #[iN a, iN b, iN r, iN m] 27)]) (by kernel_rfl) (fun _ => by kernel_rfl) (fun bq => fun ac1 wd1 FF1 MM1 => then_n ?_))
  refine wp_seq (rg_seq FF1 MM1 [o_, b_ 0, t_ (sB (minB (toN a b r m (2 * r + 1)))), o_, t_ (.tuple #[sB [], iN 1]), o_, o_, o_, o_, o_] [7, 6, 3, 8, 9] (fun Kt => bq = bq ∧ (#[iN a, iN b, iN r, iN m] : Array Value).size = 4 ∧ CallP Tryd.prog 17 [aG #[iN a, iN b, iN r, iN m]] [] (sB (minB (toN a b r m (2 * r + 1)))) ∧ CallP Tryd.prog 48 [pT g, sB (minB (toN a b r m (2 * r + 1))), .int .i64 (t : Int)] [] (.tuple #[sB [], iN 1]) ∧ Kt [(9, iN 1), (8, sB []), (7, iN 0), (6, iN 0), (3, pT bq)] [(bq, oC #[iN a, iN b, iN r, iN m] 27)]) (by kernel_rfl) (fun _ => by kernel_rfl) (⟨rfl, rfl, (callP_of en_qtotal (qtotal_any a b r m hk) _), (callP_of en_runder (runder_tlo g (toN a b r m (2 * r + 1)) (Nat.lt_of_le_of_lt (szs (Nat.lt_trans (tot_small hk) (by decide))) (by decide)) t (tot_b1 hk) (Nat.le_trans (tot_b2 hk) (by decide)) hz) _), fun ac2 wd2 FF2 MM2 => then_n ?_⟩))
  refine wp_seq ?_
  refine wp_seq (rg_seq FF2 MM2 [o_, w_ 2] [9, 8, 7, 6, 3, 21] (fun Kt => 1 ≠ 0 ∧ Kt [(21, .bool true), (9, iN 1), (8, sB []), (7, iN 0), (6, iN 0), (3, pT bq)] [(bq, oC #[iN a, iN b, iN r, iN m] 27)]) (by kernel_rfl) (fun _ => by kernel_rfl) (⟨(by decide), fun ac3 wd3 FF3 MM3 => then_n ?_⟩))
  refine wp_cond_true (FF3.ev 0 rfl) ?_
  refine wp_seq (rg_seq FF3 MM3 [o_, o_, o_] [9, 8, 7, 6, 3] (fun Kt => Kt [(7, iN 1), (6, iN 0), (9, iN 1), (8, sB []), (3, pT bq)] [(bq, oC #[iN a, iN b, iN r, iN m] 27)]) (by kernel_rfl) (fun _ => by kernel_rfl) (fun ac4 wd4 FF4 MM4 => then_n ?_))
  refine wp_ret ?_
  repeat first | refine then_ret ?_ | refine inb_ret ?_
  exact (ret_tup2 FF4 1 0 Tryd.results27 rfl rfl ⟨rfl, MM4.below⟩)
set_option maxRecDepth 100000 in
theorem qdraw_thi (g : Nat) (a b r m : Nat) (hk : TOk a b r m) (t : Int) (hz : t > 16) (w0 : World) :
    Calls Tryd.prog 27 #[.agg #[iN a, iN b, iN r, iN m], pT g, .int .i64 t] w0 fun e w' => e = .returned (.tuple #[iN 0, iN 1]) ∧ Below w0.heap.size w0 w' := by
  have ⟨k1, k2, k3, k4, k5⟩ := hk
  refine enter_fr Tryd.func27 rfl Tryd.ntmps27 (by simp) fun ac (FF : Fr 31 ac [(0, aG #[iN a, iN b, iN r, iN m]), (1, pT g), (2, .int .i64 (t : Int))]) => ?_
  have MM := MemS.start w0
  refine wp_seq (rg_seq FF MM [o_, o_, o_] [1, 2, 3, 6, 7] (fun Kt => ∀ bq, Kt [(7, iN 0), (6, iN 0), (3, pT bq), (1, pT g), (2, .int .i64 (t : Int))] [(bq, oC #[iN a, iN b, iN r, iN m] 27)]) (by kernel_rfl) (fun _ => by kernel_rfl) (fun bq => fun ac1 wd1 FF1 MM1 => then_n ?_))
  refine wp_seq (rg_seq FF1 MM1 [o_, b_ 0, t_ (sB (minB (toN a b r m (2 * r + 1)))), o_, t_ (.tuple #[sB [], iN 1]), o_, o_, o_, o_, o_] [7, 6, 3, 8, 9] (fun Kt => bq = bq ∧ (#[iN a, iN b, iN r, iN m] : Array Value).size = 4 ∧ CallP Tryd.prog 17 [aG #[iN a, iN b, iN r, iN m]] [] (sB (minB (toN a b r m (2 * r + 1)))) ∧ CallP Tryd.prog 48 [pT g, sB (minB (toN a b r m (2 * r + 1))), .int .i64 (t : Int)] [] (.tuple #[sB [], iN 1]) ∧ Kt [(9, iN 1), (8, sB []), (7, iN 0), (6, iN 0), (3, pT bq)] [(bq, oC #[iN a, iN b, iN r, iN m] 27)]) (by kernel_rfl) (fun _ => by kernel_rfl) (⟨rfl, rfl, (callP_of en_qtotal (qtotal_any a b r m hk) _), (callP_of en_runder (runder_thi g (toN a b r m (2 * r + 1)) (Nat.lt_of_le_of_lt (szs (Nat.lt_trans (tot_small hk) (by decide))) (by decide)) t (tot_b1 hk) (Nat.le_trans (tot_b2 hk) (by decide)) hz) _), fun ac2 wd2 FF2 MM2 => then_n ?_⟩))
  refine wp_seq ?_
  refine wp_seq (rg_seq FF2 MM2 [o_, w_ 2] [9, 8, 7, 6, 3, 21] (fun Kt => 1 ≠ 0 ∧ Kt [(21, .bool true), (9, iN 1), (8, sB []), (7, iN 0), (6, iN 0), (3, pT bq)] [(bq, oC #[iN a, iN b, iN r, iN m] 27)]) (by kernel_rfl) (fun _ => by kernel_rfl) (⟨(by decide), fun ac3 wd3 FF3 MM3 => then_n ?_⟩))
  refine wp_cond_true (FF3.ev 0 rfl) ?_
  refine wp_seq (rg_seq FF3 MM3 [o_, o_, o_] [9, 8, 7, 6, 3] (fun Kt => Kt [(7, iN 1), (6, iN 0), (9, iN 1), (8, sB []), (3, pT bq)] [(bq, oC #[iN a, iN b, iN r, iN m] 27)]) (by kernel_rfl) (fun _ => by kernel_rfl) (fun ac4 wd4 FF4 MM4 => then_n ?_))
  refine wp_ret ?_
  repeat first | refine then_ret ?_ | refine inb_ret ?_
  exact (ret_tup2 FF4 1 0 Tryd.results27 rfl rfl ⟨rfl, MM4.below⟩)
end Go.Proofs.YtlljedijldkcbaaDoor
namespace Go.Proofs.YtlljedijldkcbaaDoor
open Go.ChangeShapes Go.WideShapes Go.ChangeAt Go.RowKit
theorem Tryd.own : ownKnob Tryd.prog.godebug = Option.none := by kernel_rfl
theorem Tryd.laidOut : laidOutB Tryd.prog = true := by kernel_rfl
section
variable {H : Type} {enc : TypeId × Value → H} {P : Program}
theorem trodAll_below (hl : laidOutB P = true) {W W' : World} (hb : Below W.heap.size W W') : ∀ (ts : List TypeId) (vs : List Value) (ds : List (DataW H)) (ps : List MemPlace), (∀ t ∈ ts, P.readableRec t = true ∧ t < P.types.size) →
    DataW.TrodAll enc P W 0 (fun _ => true) true ts vs ds ps → (∀ x ∈ ps, x.block < W.heap.size) → DataW.TrodAll enc P W' 0 (fun b => decide (b < W.heap.size)) true ts vs ds ps
  | [], [], [], _, _, h, _ => h
  | t :: ts, v :: vs, d :: ds, ps, hr, ⟨p, q, h1, h2, e⟩, hlt => by
    subst e
    obtain ⟨r1, r2⟩ := hr t (by simp)
    exact ⟨p, q, Below.trod hl r1 r2 h1 hb (fun x hx => hlt x (by simp [hx])), trodAll_below hl hb ts vs ds q (fun t ht => hr t (by simp [ht])) h2 (fun x hx => hlt x (by simp [hx])), rfl⟩
  | [], [], _ :: _, _, _, h, _ => h.elim
  | [], _ :: _, _, _, _, h, _ => by cases h
  | _ :: _, [], _, _, _, h, _ => by cases h
  | _ :: _, _ :: _, [], _, _, h, _ => h.elim
/-- What is asked behind a law's walk. -/
theorem post_true {f : Func} {s : ChangeSpec} {W W' : World} {args : Array Value} {ds : List (DataW H)} {before : List MemPlace} {T : TypeId} (hl : laidOutB P = true) (hr : ∀ t ∈ f.params.toList, P.readableRec t = true ∧ t < P.types.size) (hv : s.vars = [])
    (hW : DataW.Whole enc P f.params.toList s.vars false W args.toList ds [] before) (hres : (s.fn H (ds ++ [])).results = [.lit (.bool true)]) (hargs : (s.fn H (ds ++ [])).args = ds) (hvs : (s.fn H (ds ++ [])).vars = [])
    (hT : f.resultTypes = #[T]) (hu : P.underlying T = some .bool) (hb : Below W.heap.size W W') : s.post enc P f false true false false W args (.bool true) W' := by
  have hlt := hW.lt
  have hW' := hW
  obtain ⟨p, q, hA, hV, rfl, _, _⟩ := hW'
  refine ⟨ds, [], p ++ q, [], p, [], hW, ?_, ?_, ?_, hb.frame _, fun h => by cases h⟩
  · rw [hres, hT]
    exact trodAll_cons_mk (shut_bool hu _) rfl
  · rw [hargs]
    exact trodAll_below hl hb _ _ _ _ hr hA (fun x hx => hlt x (by simp [hx]))
  · rw [hvs, hv]
    exact rfl
end
section
variable {H : Type} {enc : TypeId × Value → H} {P : Program}
end
end Go.Proofs.YtlljedijldkcbaaDoor
namespace Go.Proofs.YtlljedijldkcbaaDoor
open Go.RowKit
section
variable {P : Program} {w w' : World} {l : Slots} {L O : Blks} {o : Oper} {m n : Nat} {V : Nat → Value} {p : Option Addr}
/-- From p on, in w, m cells that hold V. -/
def RowIn (w : World) (p : Option Addr) (m : Nat) (V : Nat → Value) : Prop :=
  m = 0 ∨ ∃ (b off : Nat) (cs : Array Value) (T : TypeId) (fr : Nat × Nat), p = some ⟨b, off, none⟩ ∧ w.heap[b]? = some (.cells cs T fr) ∧ ∀ j, j < m → cs[off + j]? = some (V j)
def RowO (O : Blks) (p : Option Addr) (m : Nat) (V : Nat → Value) : Prop :=
  m = 0 ∨ ∃ (b off : Nat) (cs : Array Value) (T : TypeId) (fr : Nat × Nat), p = some ⟨b, off, none⟩ ∧ (b, Obj.cells cs T fr) ∈ O ∧ ∀ j, j < m → cs[off + j]? = some (V j)
theorem RowO.mono {O' : Blks} (h : RowO O p m V) (hs : ∀ x ∈ O, x ∈ O') : RowO O' p m V := by
  rcases h with h | ⟨b, off, cs, T, fr, h1, h2, h3⟩
  · exact .inl h
  · exact .inr ⟨b, off, cs, T, fr, h1, hs _ h2, h3⟩
theorem RowO.at (h : RowO O p m V) (H : Has w O) : RowIn w p m V := by
  rcases h with h | ⟨b, off, cs, T, fr, h1, h2, h3⟩
  · exact .inl h
  · exact .inr ⟨b, off, cs, T, fr, h1, Has.mem H h2, h3⟩
end
section
variable {P : Program} {ops : Array Oper} {a : Act} {w0 w : World} {Q : Exit → Act → World → Prop} {n b : Nat} {ob : Obj} {l : Slots} {L : Blks} {S : Nat → Prop} {R : List Row} {o : Oper}
end
open Go.ChangeShapes Go.WideShapes Go.ChangeAt
section
variable {P : Program} {H : Type} {enc : TypeId × Value → H} {W : World} {r : Reach} {base base' : Nat} {spare : Nat → Bool} {held : Bool}
end
end Go.Proofs.YtlljedijldkcbaaDoor
namespace Go.Proofs.YtlljedijldkcbaaDoor
open Go.RowKit
section
variable {P : Program} {ops : Array Oper} {rest : List Oper} {a : Act} {w0 w w' : World} {Q : Exit → Act → World → Prop} {n : Nat} {l : Slots} {L O : Blks} {S : Nat → Prop} {R : List Row}
/-- A new cell, as a letter: its block is the letter's. -/
def cellMk (v : Value) : Value := .pointer (some ⟨gOf (pOf v), 0, none⟩)
def FsN (ops : List Oper) (specs : List Spec) (hs : List (Option Hint)) : List Nat → Prop
  | [] => True
  | i :: r => (∃ o T p, ops[i]? = some o ∧ o.op = .alloc T ∧ hs[i]? = some (some o_) ∧ specs[i]? = some (.inr (cellMk, p)) ∧ ∀ x w, p x w → gOf (pOf x) < w.heap.size) ∧ FsN ops specs hs r
theorem FsN.get {os : List Oper} {specs : List Spec} {hs : List (Option Hint)} : ∀ {fs : List Nat}, FsN os specs hs fs → ∀ i ∈ fs, ∃ o T p, os[i]? = some o ∧ o.op = .alloc T ∧ hs[i]? = some (some o_) ∧ specs[i]? = some (.inr (cellMk, p)) ∧ ∀ x w, p x w → gOf (pOf x) < w.heap.size
  | [], _, i, h => by cases h
  | j :: r, ⟨h1, h2⟩, i, h => by
    rcases List.mem_cons.1 h with rfl | h
    · exact h1
    · exact FsN.get h2 i h
/-- Cells that no number lies in. -/
def NoNat (Cs : Blks) : Prop := ∀ x ∈ Cs, ∃ cs T fr, x.2 = .cells cs T fr ∧ ∀ d, cs[0]? ≠ some (.int .u64 d)
theorem NoNat.nil : NoNat [] := fun _ hx => (nomatch hx)
theorem NoNat.cons {Cs : Blks} {g : Nat} {cs : Array Value} {T : TypeId} {fr : Nat × Nat} (h : NoNat Cs) (hc : ∀ d, cs[0]? ≠ some (.int .u64 d)) : NoNat ((g, .cells cs T fr) :: Cs) := fun x hx => by
  rcases List.mem_cons.1 hx with rfl | hx
  · exact ⟨cs, T, fr, rfl, hc⟩
  · exact h x hx
end
end Go.Proofs.YtlljedijldkcbaaDoor
