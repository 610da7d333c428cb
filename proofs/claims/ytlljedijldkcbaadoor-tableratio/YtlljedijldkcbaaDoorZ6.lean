/- Several texts in one: Package tape: numbers below another one. Package tape: the number of some bits; numbers under another one. The numbers of a table. No program in this text. The laws of the table: numbers. Package table: least, most, how many. Package table: powers, weights. Package table: weights, the total, the number of a word. Package table: tables made; draws. Package table: draws. From a walk to a row: a law that returns true and writes nothing that was there; arrays of bytes that come in. Rows that came in and lie anywhere: elements of one or more cells, only read. A region that draws its order, where new cells are among what is made: the cells are apart. -/
import Derived.Test.YtlljedijldkcbaaDoorZ5
import Derived.Lib.MinMax
import Derived.Test.YtlljedijldkcbaaDoorRows
import Derived.WalkKit
import Derived.Test.YtlljedijldkcbaaDoorZ1
import Derived.Below
import Derived.ProofKit
import Derived.OpenShut
import Derived.ChangeOld
import Derived.OrdersHeld
namespace Go.Proofs.YtlljedijldkcbaaDoor
open Go.RowKit
/-- A tape that was made. -/
def NewT (X : List Nat) (w w' : World) (v : Value) : Prop := ∃ g, v = pT g ∧ Below w.heap.size w w' ∧ w.heap.size ≤ g ∧ w'.heap[g]? = some (TB X 0)
set_option maxRecDepth 100000 in
theorem tnew_any (X : List Nat) (w0 : World) : Calls Tryd.prog 25 #[sB X] w0 fun e w' => ∃ v, e = .returned v ∧ NewT X w0 w' v := by
  refine enter_fr Tryd.func25 rfl Tryd.ntmps25 (by simp) fun ac (FF : Fr 6 ac [(0, sB X)]) => ?_
  have MM := MemS.start w0
  refine wp_seq (rg_seq FF MM [o_] [0, 2] (fun Kt => Kt [(2, .pointer none), (0, sB X)] []) (by kernel_rfl) (fun _ => by kernel_rfl) (fun ac1 wd1 FF1 MM1 => then_n ?_))
  refine wp_seq (rg_seq FF1 MM1 [o_, o_, o_, o_] [2] (fun Kt => ∀ bt, Kt [(2, pT bt)] [(bt, oC #[sB X, iN 0] 81)]) (by kernel_rfl) (fun _ => by kernel_rfl) (fun bt => fun ac2 wd2 FF2 MM2 => then_n ?_))
  refine wp_ret ?_
  repeat first | refine then_ret ?_ | refine inb_ret ?_
  exact (ret_fr FF2 0 Tryd.results25 rfl ⟨_, rfl, bt, rfl, MM2.below, MM2.fresh 0 rfl, MM2.get 0 rfl⟩)
set_option maxRecDepth 100000 in
theorem maybe_yes (k : Nat) (h1 : k ≥ 1) (hk : k ≤ 16) (w0 : World) :
    Calls Tryd.prog 61 #[iN k] w0 fun e w' => e = .returned (.bool true) ∧ Below w0.heap.size w0 w' := by
  refine enter_fr Tryd.func61 rfl Tryd.ntmps61 (by simp) fun ac (FF : Fr 9 ac [(0, iN k)]) => ?_
  have MM := MemS.start w0
  refine wp_seq (rg_seq FF MM [o_] [0, 2] (fun Kt => Kt [(2, .bool false), (0, iN k)] []) (by kernel_rfl) (fun _ => by kernel_rfl) (fun ac1 wd1 FF1 MM1 => then_n ?_))
  refine wp_seq (rg_seq FF1 MM1 [o_, w_ 2, o_, o_, w_ 2, o_, o_] [2] (fun Kt => k ≥ 1 ∧ k ≤ 16 ∧ Kt [(2, .bool true)] []) (by kernel_rfl) (fun _ => by kernel_rfl) (⟨h1, hk, fun ac2 wd2 FF2 MM2 => then_n ?_⟩))
  refine wp_ret ?_
  repeat first | refine then_ret ?_ | refine inb_ret ?_
  exact (ret_fr FF2 0 Tryd.results61 rfl ⟨rfl, MM2.below⟩)
end Go.Proofs.YtlljedijldkcbaaDoor
namespace Go.Proofs.YtlljedijldkcbaaDoor
open Go.RowKit
theorem strY_rep {Y : List Nat} {c n : Nat} (hl : Y.length = n) (hY : ∀ i, Y.getD i 0 < 256) : StrAt (cn .u8 (Y ++ List.replicate c 0)) 0 n (bs Y) := by
  have h5 := str_part (X := Y ++ List.replicate c 0) (n := Y.length + c) (off := 0) (len := n) (by simp) (rep_lt hY c) (by omega)
  rw [List.drop_zero, ← hl, List.take_left] at h5
  rw [hl] at h5
  exact h5
theorem setY_rep {Y : List Nat} {c i x : Nat} (h : i < Y.length) : (Y ++ List.replicate c 0).set i x = Y.set i x ++ List.replicate c 0 := List.set_append_left _ _ h
theorem setY_lt {Y : List Nat} {i x : Nat} (hY : ∀ i, Y.getD i 0 < 256) (hx : x < 256) : ∀ j, (Y.set i x).getD j 0 < 256 := fun j => by
  rw [getD_set]; split
  · exact hx
  · exact hY j
set_option maxRecDepth 100000 in
theorem tbits_any (g : Nat) (X : List Nat) (u : Nat) (hX : ∀ i, X.getD i 0 < 256) (hu : u < 4611686018427387904) (b : Nat) (hb1 : 1 ≤ b) (hb : b ≤ 1024) (w0 : World) (hg : w0.heap[g]? = some (TB X u)) :
    Calls Tryd.prog 62 #[pT g, iN b] w0 fun e w' => ∃ v, e = .returned (.agg #[nv (bitN b X) v]) ∧ Turn g (TB (X.drop ((b + 7) / 8)) (u + (b + 7) / 8)) w0 w' ∧ NatNew w0.heap.size w' (nv (bitN b X) v) (bitN b X) := by
  refine enter_fr Tryd.func62 rfl Tryd.ntmps62 (by simp) fun ac (FF : Fr 29 ac [(0, pT g), (1, iN b)]) => ?_
  have MM : MemS (fun k => k < w0.heap.size ∧ ∀ x ∈ (g, oC #[sB X, iN u] 81) :: ([] : Blks), x.1 ≠ k) w0 w0 ((g, oC #[sB X, iN u] 81) :: ([] : Blks)) [] := MemS.startN (one_has hg) ⟨fun y hy => (nomatch hy), trivial⟩
  have hmk : (takN ((b + 7) / 8) X).getD ((b + 7) / 8 - 1) 0 &&& 255 / 2 ^ (8 * ((b + 7) / 8) - b) < 256 := Nat.lt_of_le_of_lt Nat.and_le_left (takN_lt hX _ _)
  have hY2 := setY_lt (i := (b + 7) / 8 - 1) (takN_lt hX ((b + 7) / 8)) hmk
  refine wp_seq (rg_seq FF MM [o_] [0, 1, 4] (fun Kt => ∀ br, Kt [(4, pT br), (0, pT g), (1, iN b)] ((br, oC #[.slice none 0 0] 37) :: (g, oC #[sB X, iN u] 81) :: ([] : Blks))) (by kernel_rfl) (fun _ => by kernel_rfl) (fun br => fun ac1 wd1 FF1 MM1 => then_n ?_))
  refine wp_seq (wp_region_list ?_)
  refine rg_part 5 FF1 MM1 [o_, o_, o_, o_, c_ (sB (takN ((b + 7) / 8) X)) [(1, oC #[sB (X.drop ((b + 7) / 8)), iN (u + ((b + 7) / 8))] 81)]] [4, 1, 10] (fun Kt => b + 7 < 9223372036854775808 ∧ 8 ≠ 0 ∧ (b + 7) / 8 < 9223372036854775808 ∧ CallU Tryd.prog 77 [pT g, iN ((b + 7) / 8)] ((br, oC #[.slice none 0 0] 37) :: (g, oC #[sB X, iN u] 81) :: ([] : Blks)) (sB (takN ((b + 7) / 8) X)) [(1, oC #[sB (X.drop ((b + 7) / 8)), iN (u + ((b + 7) / 8))] 81)] ∧ Kt [(10, sB (takN ((b + 7) / 8) X)), (4, pT br), (1, iN b)] ((br, oC #[.slice none 0 0] 37) :: (g, oC #[sB (X.drop ((b + 7) / 8)), iN (u + ((b + 7) / 8))] 81) :: ([] : Blks))) (by kernel_rfl) (fun _ => by kernel_rfl) (⟨(by have := hb; omega), (by decide), (by have := hb; omega), (callU_turn en_take (g := g) (ob := TB X u) rfl fun w hg => by have h0 := take_any g ((b + 7) / 8) X u hX (by omega) (by omega) w hg; exact h0), fun ac2 wd2 FF2 MM2 => ?_⟩)
  refine st_new [4, 1, 11] FF2 MM2 (d := 11) (bytes_ok (e := 5) (x := (.tmp 10)) (by kernel_rfl) rfl (takN_lt hX ((b + 7) / 8)) Tryd.underlying9 Tryd.underlying67 Tryd.underlying5) rfl rfl (by decide) fun ac3 wd3 bs_ cz (FF3 : Fr 29 ac3 [(11, .slice (some ⟨bs_, 0, none⟩) ((takN ((b + 7) / 8) X).length) ((takN ((b + 7) / 8) X).length + cz)), (4, pT br), (1, iN b)]) (MM3 : MemS (fun k => k < w0.heap.size ∧ ∀ x ∈ (g, oC #[sB X, iN u] 81) :: ([] : Blks), x.1 ≠ k) w0 wd3 ((bs_, .cells (cn .u8 ((takN ((b + 7) / 8) X) ++ List.replicate cz 0)) 5 ((takN ((b + 7) / 8) X).length + cz, (takN ((b + 7) / 8) X).length + cz + 1)) :: (br, oC #[.slice none 0 0] 37) :: (g, oC #[sB (X.drop ((b + 7) / 8)), iN (u + ((b + 7) / 8))] 81) :: ([] : Blks)) []) => ?_
  refine rg_part 1 FF3 MM3 [o_] [4, 1, 5] (fun Kt => Kt [(5, .slice (some ⟨bs_, 0, none⟩) ((takN ((b + 7) / 8) X).length) ((takN ((b + 7) / 8) X).length + cz)), (4, pT br), (1, iN b)] ((bs_, .cells (cn .u8 ((takN ((b + 7) / 8) X) ++ List.replicate cz 0)) 5 ((takN ((b + 7) / 8) X).length + cz, (takN ((b + 7) / 8) X).length + cz + 1)) :: (br, oC #[.slice none 0 0] 37) :: (g, oC #[sB (X.drop ((b + 7) / 8)), iN (u + ((b + 7) / 8))] 81) :: ([] : Blks))) (by kernel_rfl) (fun _ => by kernel_rfl) (fun ac4 wd4 FF4 MM4 => ?_)
  refine wpl_nil (then_n ?_)
  refine wp_seq (rg_draw FF4 MM4 [.inl (.slice (some ⟨bs_, 0, none⟩) ((takN ((b + 7) / 8) X).length) ((takN ((b + 7) / 8) X).length + cz)), .inl (.slice (some ⟨bs_, 0, none⟩) ((takN ((b + 7) / 8) X).length) ((takN ((b + 7) / 8) X).length + cz)), .inl (iN ((b + 7) / 8)), .inl (iN (((b + 7) / 8) - 1)), .inl (.pointer (some ⟨bs_, ((b + 7) / 8) - 1, none⟩)), .inl (iB ((takN ((b + 7) / 8) X).getD ((b + 7) / 8 - 1) 0)), .inl (.slice (some ⟨bs_, 0, none⟩) ((takN ((b + 7) / 8) X).length) ((takN ((b + 7) / 8) X).length + cz)), .inl (iN ((b + 7) / 8)), .inl (iN (8 * ((b + 7) / 8))), .inl (iN b), .inl (iN ((8 * ((b + 7) / 8)) - b)), .inl (iB (255 / (2 ^ ((8 * ((b + 7) / 8)) - b)))), .inl (iB (((takN ((b + 7) / 8) X).getD ((b + 7) / 8 - 1) 0) &&& (255 / (2 ^ ((8 * ((b + 7) / 8)) - b))))), .inl (.pointer (some ⟨bs_, ((b + 7) / 8) - 1, none⟩))] [] [o_, o_, t_ (iN ((b + 7) / 8)), o_, w_ 1, l_ 0 (iB ((takN ((b + 7) / 8) X).getD ((b + 7) / 8 - 1) 0)), o_, t_ (iN ((b + 7) / 8)), o_, o_, o_, o_, o_, w_ 1] [s_ 0 (.cells (cn .u8 ((takN ((b + 7) / 8) X).set ((b + 7) / 8 - 1) ((takN ((b + 7) / 8) X).getD ((b + 7) / 8 - 1) 0 &&& 255 / 2 ^ (8 * ((b + 7) / 8) - b)) ++ List.replicate cz 0)) 5)] [5, 4, 1] (fun nb => [iN ((takN ((b + 7) / 8) X).length) = iN ((b + 7) / 8), 1 ≤ ((b + 7) / 8), ((b + 7) / 8) - 1 < 9223372036854775808, (((b + 7) / 8) - 1) < ((takN ((b + 7) / 8) X).length), bs_ = bs_, (cn .u8 ((takN ((b + 7) / 8) X) ++ List.replicate cz 0))[((b + 7) / 8) - 1]? = some (iB ((takN ((b + 7) / 8) X).getD ((b + 7) / 8 - 1) 0)), iN ((takN ((b + 7) / 8) X).length) = iN ((b + 7) / 8), 8 * ((b + 7) / 8) < 9223372036854775808, b ≤ (8 * ((b + 7) / 8)), (8 * ((b + 7) / 8)) - b < 9223372036854775808, (8 * ((b + 7) / 8)) - b ≤ 8, ((takN ((b + 7) / 8) X).getD ((b + 7) / 8 - 1) 0) < 256, (255 / (2 ^ ((8 * ((b + 7) / 8)) - b))) < 256, (((b + 7) / 8) - 1) < ((takN ((b + 7) / 8) X).length)]) (fun nb Kt => bs_ = bs_ ∧ ((b + 7) / 8) - 1 < (cn .u8 ((takN ((b + 7) / 8) X) ++ List.replicate cz 0)).size ∧ ((((takN ((b + 7) / 8) X).length + cz, (takN ((b + 7) / 8) X).length + cz + 1)).2 = 0 ∨ ((b + 7) / 8) - 1 < (((takN ((b + 7) / 8) X).length + cz, (takN ((b + 7) / 8) X).length + cz + 1)).1) ∧ (cn .u8 ((takN ((b + 7) / 8) X) ++ List.replicate cz 0)).setIfInBounds (((b + 7) / 8) - 1) (iB (((takN ((b + 7) / 8) X).getD ((b + 7) / 8 - 1) 0) &&& (255 / (2 ^ ((8 * ((b + 7) / 8)) - b))))) = cn .u8 ((takN ((b + 7) / 8) X).set ((b + 7) / 8 - 1) ((takN ((b + 7) / 8) X).getD ((b + 7) / 8 - 1) 0 &&& 255 / 2 ^ (8 * ((b + 7) / 8) - b)) ++ List.replicate cz 0) ∧ Kt [(5, .slice (some ⟨bs_, 0, none⟩) ((takN ((b + 7) / 8) X).length) ((takN ((b + 7) / 8) X).length + cz)), (4, pT br), (1, iN b)] ((bs_, .cells (cn .u8 ((takN ((b + 7) / 8) X).set ((b + 7) / 8 - 1) ((takN ((b + 7) / 8) X).getD ((b + 7) / 8 - 1) 0 &&& 255 / 2 ^ (8 * ((b + 7) / 8) - b)) ++ List.replicate cz 0)) 5 ((takN ((b + 7) / 8) X).length + cz, (takN ((b + 7) / 8) X).length + cz + 1)) :: (br, oC #[.slice none 0 0] 37) :: (g, oC #[sB (X.drop ((b + 7) / 8)), iN (u + ((b + 7) / 8))] 81) :: ([] : Blks))) (by kernel_rfl) (by kernel_rfl) (by kernel_rfl) (fun _ => by kernel_rfl) (fun _ _ => by kernel_rfl) trivial (fun nb => ⟨(vI (takN_len _ _)), (by omega), (by omega), (by rw [takN_len]; omega), rfl, ((cn_get _ _ _ (by rw [List.length_append, takN_len]; omega)).trans (congrArg some (vI (getD_app_l _ _ _ (by rw [takN_len]; omega))))), (vI (takN_len _ _)), (by omega), (by have := hb; omega), (by have := hb; omega), (by have := hb; omega), (takN_lt hX _ _), (Nat.lt_of_le_of_lt (Nat.div_le_self _ _) (by decide)), (by rw [takN_len]; omega), trivial⟩) (fun nb => ⟨rfl, (by rw [cn_size, List.length_append, takN_len]; omega), (.inr (by rw [takN_len]; show _ < _; omega)), ((cn_set _ _ _ _).trans (congrArg _ (setY_rep (by rw [takN_len]; omega)))), fun ac5 wd5 FF5 MM5 => then_n ?_⟩))
  refine wp_seq (wp_region_list ?_)
  refine rg_part 2 FF5 MM5 [o_, l_ 0 (sB ((takN ((b + 7) / 8) X).set ((b + 7) / 8 - 1) ((takN ((b + 7) / 8) X).getD ((b + 7) / 8 - 1) 0 &&& 255 / 2 ^ (8 * ((b + 7) / 8) - b))))] [5, 4, 1, 27] (fun Kt => bs_ = bs_ ∧ StrAt (cn .u8 ((takN ((b + 7) / 8) X).set ((b + 7) / 8 - 1) ((takN ((b + 7) / 8) X).getD ((b + 7) / 8 - 1) 0 &&& 255 / 2 ^ (8 * ((b + 7) / 8) - b)) ++ List.replicate cz 0)) 0 ((takN ((b + 7) / 8) X).length) (bs ((takN ((b + 7) / 8) X).set ((b + 7) / 8 - 1) ((takN ((b + 7) / 8) X).getD ((b + 7) / 8 - 1) 0 &&& 255 / 2 ^ (8 * ((b + 7) / 8) - b)))) ∧ Kt [(27, sB ((takN ((b + 7) / 8) X).set ((b + 7) / 8 - 1) ((takN ((b + 7) / 8) X).getD ((b + 7) / 8 - 1) 0 &&& 255 / 2 ^ (8 * ((b + 7) / 8) - b)))), (5, .slice (some ⟨bs_, 0, none⟩) ((takN ((b + 7) / 8) X).length) ((takN ((b + 7) / 8) X).length + cz)), (4, pT br), (1, iN b)] ((bs_, .cells (cn .u8 ((takN ((b + 7) / 8) X).set ((b + 7) / 8 - 1) ((takN ((b + 7) / 8) X).getD ((b + 7) / 8 - 1) 0 &&& 255 / 2 ^ (8 * ((b + 7) / 8) - b)) ++ List.replicate cz 0)) 5 ((takN ((b + 7) / 8) X).length + cz, (takN ((b + 7) / 8) X).length + cz + 1)) :: (br, oC #[.slice none 0 0] 37) :: (g, oC #[sB (X.drop ((b + 7) / 8)), iN (u + ((b + 7) / 8))] 81) :: ([] : Blks))) (by kernel_rfl) (fun _ => by kernel_rfl) (⟨rfl, (strY_rep (by rw [List.length_set]) hY2), fun ac6 wd6 FF6 MM6 => ?_⟩)
  refine st_callE [5, 4, 1, 28] FF6 (d := 28) (mk := fun v => .agg #[nv (bitN b X) v]) en_nbytes rfl rfl (by have h0 := nbytes_any ((takN ((b + 7) / 8) X).set ((b + 7) / 8 - 1) ((takN ((b + 7) / 8) X).getD ((b + 7) / 8 - 1) 0 &&& 255 / 2 ^ (8 * ((b + 7) / 8) - b))) hY2 (by rw [List.length_set, takN_len]; omega) wd6; rw [bit_tape hX hb1] at h0; exact h0) rfl (by kernel_rfl) (by decide) fun ac8 wd8 lv7 (FF8 : Fr 29 ac8 [(28, aG #[nv (bitN b X) lv7]), (5, .slice (some ⟨bs_, 0, none⟩) ((takN ((b + 7) / 8) X).length) ((takN ((b + 7) / 8) X).length + cz)), (4, pT br), (1, iN b)]) hr9 => ?_
  have hfr := hr9.2.2
  have hsz := MM6.size
  obtain ⟨O10, MM110, hN12, hs13⟩ := MemS.addNats (K := [(bs_, .cells (cn .u8 ((takN ((b + 7) / 8) X).set ((b + 7) / 8 - 1) ((takN ((b + 7) / 8) X).getD ((b + 7) / 8 - 1) 0 &&& 255 / 2 ^ (8 * ((b + 7) / 8) - b)) ++ List.replicate cz 0)) 5 ((takN ((b + 7) / 8) X).length + cz, (takN ((b + 7) / 8) X).length + cz + 1)), (br, oC #[.slice none 0 0] 37), (g, oC #[sB (X.drop ((b + 7) / 8)), iN (u + ((b + 7) / 8))] 81)]) (O := ([] : Blks)) MM6 hr9.1 hr9.2 (Nats.nil ([] : Blks))
  have MM11 : MemS (fun k => k < w0.heap.size ∧ ∀ x ∈ (g, oC #[sB X, iN u] 81) :: ([] : Blks), x.1 ≠ k) w0 wd8 ((bs_, .cells (cn .u8 ((takN ((b + 7) / 8) X).set ((b + 7) / 8 - 1) ((takN ((b + 7) / 8) X).getD ((b + 7) / 8 - 1) 0 &&& 255 / 2 ^ (8 * ((b + 7) / 8) - b)) ++ List.replicate cz 0)) 5 ((takN ((b + 7) / 8) X).length + cz, (takN ((b + 7) / 8) X).length + cz + 1)) :: (br, oC #[.slice none 0 0] 37) :: (g, oC #[sB (X.drop ((b + 7) / 8)), iN (u + ((b + 7) / 8))] 81) :: O10) [] := MM110
  refine rg_part 1 FF8 MM11 [b_ 1] [5, 4, 1] (fun Kt => br = br ∧ (#[.slice none 0 0] : Array Value).size = 1 ∧ (#[nv (bitN b X) lv7] : Array Value).size = 1 ∧ (#[nv (bitN b X) lv7] : Array Value).all (·.oneCell') = true ∧ (0, 0).2 = 0 ∧ Kt [(5, .slice (some ⟨bs_, 0, none⟩) ((takN ((b + 7) / 8) X).length) ((takN ((b + 7) / 8) X).length + cz)), (4, pT br), (1, iN b)] ((bs_, .cells (cn .u8 ((takN ((b + 7) / 8) X).set ((b + 7) / 8 - 1) ((takN ((b + 7) / 8) X).getD ((b + 7) / 8 - 1) 0 &&& 255 / 2 ^ (8 * ((b + 7) / 8) - b)) ++ List.replicate cz 0)) 5 ((takN ((b + 7) / 8) X).length + cz, (takN ((b + 7) / 8) X).length + cz + 1)) :: (br, oC #[nv (bitN b X) lv7] 37) :: (g, oC #[sB (X.drop ((b + 7) / 8)), iN (u + ((b + 7) / 8))] 81) :: O10)) (by kernel_rfl) (fun _ => by kernel_rfl) (⟨rfl, rfl, rfl, (by kernel_rfl), rfl, fun ac14 wd14 FF14 MM14 => ?_⟩)
  refine wpl_nil (then_n ?_)
  refine wp_ret ?_
  repeat first | refine then_ret ?_ | refine inb_ret ?_
  exact (retc FF14 MM14 (k := 1) (i := 1) (j := 1) Tryd.results62 rfl rfl Tryd.underlying37 rfl (by kernel_rfl) rfl ⟨lv7, rfl, MM14.turn (O := []) (fun i x hx => by simp at hx) 2 rfl (fun x hx => (nomatch hx)), (hN12.get 0 rfl).at (Has.tl (Has.tl (Has.tl MM14.hasL))), fun q hq => Nat.le_trans hsz (hfr q hq)⟩)
set_option maxRecDepth 100000 in
theorem tunder_O (g : Nat) (X : List Nat) (u : Nat) (hX : ∀ i, X.getD i 0 < 256) (hu : u < 4611686018427000000) (N : Nat) (y : Value) (k : Nat) (O : Blks) (hN : NatO O (nv N y) N) (h1 : 1 ≤ bsz N) (hb : bsz N ≤ 1024) (hk1 : 1 ≤ k) (hk : k ≤ 16) (w0 : World) (H : Has w0 ((g, TB X u) :: O)) (hD : Distinct ((g, TB X u) :: O)) :
    Calls Tryd.prog 47 #[pT g, .agg #[nv N y], iN k] w0 fun e w' => ∃ v, e = .returned (.tuple #[.agg #[nv (undN N (bsz N) k X).1 v], iN ((undN N (bsz N) k X).2.1)]) ∧ Turn g (TB (X.drop (undN N (bsz N) k X).2.2) (u + (undN N (bsz N) k X).2.2)) w0 w' ∧ NatNew w0.heap.size w' (nv (undN N (bsz N) k X).1 v) (undN N (bsz N) k X).1 := by
  refine enter_fr Tryd.func47 rfl Tryd.ntmps47 (by simp) fun ac (FF : Fr 41 ac [(0, pT g), (1, aG #[nv N y]), (2, iN k)]) => ?_
  have MM : MemS (fun k => k < w0.heap.size ∧ ∀ x ∈ (g, oC #[sB X, iN u] 81) :: O, x.1 ≠ k) w0 w0 ((g, oC #[sB X, iN u] 81) :: O) [] := MemS.startN H hD
  have hs : qsz N < 1000000 := Nat.lt_of_le_of_lt (qsz_le (n := 16) (Nat.lt_of_lt_of_le (bsz_ok N).1 (Nat.le_trans (Nat.pow_le_pow_right (by decide) hb) (by decide +kernel)))) (by decide)
  refine wp_seq (rg_seq FF MM [o_, o_, o_] [0, 2, 4, 6, 7] (fun Kt => ∀ bw, ∀ br, Kt [(7, iN 0), (6, pT br), (4, pT bw), (0, pT g), (2, iN k)] ((br, oC #[.slice none 0 0] 37) :: (bw, oC #[nv N y] 37) :: (g, oC #[sB X, iN u] 81) :: O)) (by kernel_rfl) (fun _ => by kernel_rfl) (fun bw => fun br => fun ac1 wd1 FF1 MM1 => then_n ?_))
  refine wp_seq (rg_seq FF1 MM1 [b_ 1, u_ 1 (iN (bsz N)), o_] [7, 6, 4, 0, 2, 8] (fun Kt => bw = bw ∧ (#[nv N y] : Array Value).size = 1 ∧ CallP Tryd.prog 35 [aG #[nv N y]] ((br, oC #[.slice none 0 0] 37) :: (bw, oC #[nv N y] 37) :: (g, oC #[sB X, iN u] 81) :: O) (iN (bsz N)) ∧ Kt [(8, iN (bsz N)), (7, iN 0), (6, pT br), (4, pT bw), (0, pT g), (2, iN k)] ((br, oC #[.slice none 0 0] 37) :: (bw, oC #[nv N y] 37) :: (g, oC #[sB X, iN u] 81) :: O)) (by kernel_rfl) (fun _ => by kernel_rfl) (⟨rfl, rfl, ⟨en_nbits, fun w Hw => nbits_any N y hs w (hN.at (Has.tl (Has.tl (Has.tl Hw))))⟩, fun ac2 wd2 FF2 MM2 => then_n ?_⟩))
  refine wp_seq ?_
  refine wp_seq (rg_seq FF2 MM2 [o_, f_ (.bool false), o_, o_, w_ 3, o_, o_, o_, w_ 3, o_, o_, o_, t_ (.bool true), o_, o_] [8, 7, 6, 4, 0, 2, 26] (fun Kt => RunV Tryd.prog [(12, pT g), (8, iN (bsz N)), (7, iN 0), (6, pT br), (4, pT bw), (0, pT g), (2, iN k)] ((br, oC #[.slice none 0 0] 37) :: (bw, oC #[nv N y] 37) :: (g, oC #[sB X, iN u] 81) :: O) (opAt Tryd.f47 2 1) (.bool false) ∧ ¬ ((bsz N) < 1) ∧ ¬ ((bsz N) > 1024) ∧ CallP Tryd.prog 61 [iN k] [] (.bool true) ∧ Kt [(26, .bool false), (8, iN (bsz N)), (7, iN 0), (6, pT br), (4, pT bw), (0, pT g), (2, iN k)] ((br, oC #[.slice none 0 0] 37) :: (bw, oC #[nv N y] 37) :: (g, oC #[sB X, iN u] 81) :: O)) (by kernel_rfl) (fun _ => by kernel_rfl) (⟨(ptrSome_ok (t := 48) (t' := 48) (x := (.tmp 12)) (y := (.const (.pointer none))) (by kernel_rfl) rfl rfl Tryd.underlying48), (by omega), (by omega), (callP_of en_maybe (maybe_yes k (by omega) (by omega)) _), fun ac3 wd3 FF3 MM3 => then_n ?_⟩))
  refine wp_cond_false (FF3.ev 0 rfl) ?_
  refine wp_skip ?_
  refine then_n ?_
  refine wp_seq ?_
  refine wp_seq (rg_seq FF3 MM3 [o_, o_] [8, 7, 6, 4, 0, 2, 28, 29] (fun Kt => Kt [(29, iN 0), (28, iN k), (8, iN (bsz N)), (7, iN 0), (6, pT br), (4, pT bw), (0, pT g), (2, iN k)] ((br, oC #[.slice none 0 0] 37) :: (bw, oC #[nv N y] 37) :: (g, oC #[sB X, iN u] 81) :: O)) (by kernel_rfl) (fun _ => by kernel_rfl) (fun ac4 wd4 FF4 MM4 => then_n ?_))
  refine wp_for (fun a' w' => ∃ O1 : Blks, ∃ i : Nat, i ≤ k ∧ (∀ x ∈ O, x ∈ O1) ∧ UndI N (bsz N) k X i ∧ Fr 41 a' [(29, iN i), (28, iN k), (8, iN (bsz N)), (6, pT br), (4, pT bw), (0, pT g), (2, iN k)] ∧ MemS (fun k => k < w0.heap.size ∧ ∀ x ∈ (g, oC #[sB X, iN u] 81) :: O, x.1 ≠ k) w0 w' ((br, oC #[.slice none 0 0] 37) :: (bw, oC #[nv N y] 37) :: (g, oC #[sB (X.drop ((bsz N + 7) / 8 * i)), iN (u + (bsz N + 7) / 8 * i)] 81) :: O1) []) (fun a' _ => (k - cnt 29 a').toNat) ⟨O, 0, Nat.zero_le _, (fun _ h => h), und_start _ _ _ _, FF4.pick [0, 1, 2, 4, 5, 6, 7], MM4⟩ ?_
  rintro ac5 wd5 ⟨O1, i, hi, hsb, hI, FF5, MM5⟩
  have hN1 := hN.mono hsb
  have hc := cnt_of (FF5.get 0 rfl)
  refine rg_seq FF5 MM5 [o_] [29, 28, 8, 6, 4, 0, 2, 30] (fun Kt => Kt [(30, .bool (decide (i < k))), (29, iN i), (28, iN k), (8, iN (bsz N)), (6, pT br), (4, pT bw), (0, pT g), (2, iN k)] ((br, oC #[.slice none 0 0] 37) :: (bw, oC #[nv N y] 37) :: (g, oC #[sB (X.drop ((bsz N + 7) / 8 * i)), iN (u + (bsz N + 7) / 8 * i)] 81) :: O1)) (by kernel_rfl) (fun _ => by kernel_rfl) (fun ac6 wd6 FF6 MM6 => ?_)
  by_cases hlt : i < k
  · skip
    refine then_n (.inl ⟨(FF6.ev 0 rfl).trans (dec_t hlt), ?_⟩)
    have hmi : (bsz N + 7) / 8 * i ≤ 129 * 16 := Nat.mul_le_mul (by omega) (by omega)
    have hui : u + (bsz N + 7) / 8 * i < 4611686018427387904 := by omega
    refine wp_seq (wp_region_list ?_)
    refine rg_part 2 FF6 MM6 [o_, o_] [29, 28, 8, 6, 4, 0, 2, 31, 32] (fun Kt => Kt [(32, iN (bsz N)), (31, pT g), (29, iN i), (28, iN k), (8, iN (bsz N)), (6, pT br), (4, pT bw), (0, pT g), (2, iN k)] ((br, oC #[.slice none 0 0] 37) :: (bw, oC #[nv N y] 37) :: (g, oC #[sB (X.drop ((bsz N + 7) / 8 * i)), iN (u + (bsz N + 7) / 8 * i)] 81) :: O1)) (by kernel_rfl) (fun _ => by kernel_rfl) (fun ac7 wd7 FF7 MM7 => ?_)
    refine st_callE [29, 28, 8, 6, 4, 0, 2, 33] FF7 (d := 33) (mk := fun v => .agg #[nv (bitN (bsz N) (X.drop ((bsz N + 7) / 8 * i))) v]) en_tbits rfl rfl (tbits_any g (X.drop ((bsz N + 7) / 8 * i)) (u + (bsz N + 7) / 8 * i) (dropX_lt hX _) hui (bsz N) h1 hb _ (MM7.get 2 rfl)) rfl (by kernel_rfl) (by decide) fun ac9 wd9 lv8 (FF9 : Fr 41 ac9 [(33, aG #[nv (bitN (bsz N) (X.drop ((bsz N + 7) / 8 * i))) lv8]), (29, iN i), (28, iN k), (8, iN (bsz N)), (6, pT br), (4, pT bw), (0, pT g), (2, iN k)]) hr10 => ?_
    obtain ⟨ht9, hn9⟩ := hr10
    rw [List.drop_drop] at ht9
    have ht9 : Turn g (TB (X.drop ((bsz N + 7) / 8 * (i + 1))) (u + (bsz N + 7) / 8 * (i + 1))) wd7 wd9 := by rw [Nat.mul_succ, ← Nat.add_assoc]; exact ht9
    have MM11 : MemS (fun k => k < w0.heap.size ∧ ∀ x ∈ (g, oC #[sB X, iN u] 81) :: O, x.1 ≠ k) w0 wd9 ((br, oC #[.slice none 0 0] 37) :: (bw, oC #[nv N y] 37) :: (g, oC #[sB (X.drop ((bsz N + 7) / 8 * (i + 1))), iN (u + (bsz N + 7) / 8 * (i + 1))] 81) :: O1) [] := MM7.turnAt ht9 2 rfl
    have hfr := hn9.2
    have hsz := MM7.size
    obtain ⟨O12, MM130, hN14, hs15⟩ := MemS.addNatsT (K := [(br, oC #[.slice none 0 0] 37), (bw, oC #[nv N y] 37), (g, oC #[sB (X.drop ((bsz N + 7) / 8 * (i + 1))), iN (u + (bsz N + 7) / 8 * (i + 1))] 81)]) (O := O1) MM7 MM11 rfl hn9 (Nats.nil O1)
    have MM13 : MemS (fun k => k < w0.heap.size ∧ ∀ x ∈ (g, oC #[sB X, iN u] 81) :: O, x.1 ≠ k) w0 wd9 ((br, oC #[.slice none 0 0] 37) :: (bw, oC #[nv N y] 37) :: (g, oC #[sB (X.drop ((bsz N + 7) / 8 * (i + 1))), iN (u + (bsz N + 7) / 8 * (i + 1))] 81) :: O12) [] := MM130
    have hN0_16 := hN1.mono hs15
    have hz17 : ∀ x ∈ O, x ∈ O12 := fun x hx => hs15 x (hsb x hx)
    refine rg_part 2 FF9 MM13 [o_, b_ 0] [29, 28, 8, 6, 4, 0, 2, 9] (fun Kt => ∀ bv, bv = bv ∧ (#[.slice none 0 0] : Array Value).size = 1 ∧ (#[nv (bitN (bsz N) (X.drop ((bsz N + 7) / 8 * i))) lv8] : Array Value).size = 1 ∧ (#[nv (bitN (bsz N) (X.drop ((bsz N + 7) / 8 * i))) lv8] : Array Value).all (·.oneCell') = true ∧ (0, 0).2 = 0 ∧ Kt [(9, pT bv), (29, iN i), (28, iN k), (8, iN (bsz N)), (6, pT br), (4, pT bw), (0, pT g), (2, iN k)] ((bv, oC #[nv (bitN (bsz N) (X.drop ((bsz N + 7) / 8 * i))) lv8] 37) :: (br, oC #[.slice none 0 0] 37) :: (bw, oC #[nv N y] 37) :: (g, oC #[sB (X.drop ((bsz N + 7) / 8 * (i + 1))), iN (u + (bsz N + 7) / 8 * (i + 1))] 81) :: O12)) (by kernel_rfl) (fun _ => by kernel_rfl) (fun bv => ⟨rfl, rfl, rfl, (by kernel_rfl), rfl, fun ac18 wd18 FF18 MM18 => ?_⟩)
    refine wpl_nil (then_n ?_)
    have hsv : qsz (bitN (bsz N) (X.drop ((bsz N + 7) / 8 * i))) < 1000000 := Nat.lt_of_le_of_lt (qsz_le (n := 16) (Nat.lt_of_lt_of_le (bitN_lt _ _) (Nat.le_trans (Nat.pow_le_pow_right (by decide) hb) (by decide +kernel)))) (by decide)
    refine wp_seq (rg_seq FF18 MM18 [b_ 0, b_ 2, u_ 1 (.int .i64 (cmpN (bitN (bsz N) (X.drop ((bsz N + 7) / 8 * i))) N : Int)), w_ 4] [9, 29, 28, 8, 6, 4, 0, 2, 37] (fun Kt => bv = bv ∧ (#[nv (bitN (bsz N) (X.drop ((bsz N + 7) / 8 * i))) lv8] : Array Value).size = 1 ∧ bw = bw ∧ (#[nv N y] : Array Value).size = 1 ∧ CallP Tryd.prog 33 [aG #[nv (bitN (bsz N) (X.drop ((bsz N + 7) / 8 * i))) lv8], aG #[nv N y]] ((bv, oC #[nv (bitN (bsz N) (X.drop ((bsz N + 7) / 8 * i))) lv8] 37) :: (br, oC #[.slice none 0 0] 37) :: (bw, oC #[nv N y] 37) :: (g, oC #[sB (X.drop ((bsz N + 7) / 8 * (i + 1))), iN (u + (bsz N + 7) / 8 * (i + 1))] 81) :: O12) (.int .i64 (cmpN (bitN (bsz N) (X.drop ((bsz N + 7) / 8 * i))) N : Int)) ∧ Kt [(37, .bool (decide ((cmpN (bitN (bsz N) (X.drop ((bsz N + 7) / 8 * i))) N) < ((0 : Nat) : Int)))), (9, pT bv), (29, iN i), (28, iN k), (8, iN (bsz N)), (6, pT br), (4, pT bw), (0, pT g), (2, iN k)] ((bv, oC #[nv (bitN (bsz N) (X.drop ((bsz N + 7) / 8 * i))) lv8] 37) :: (br, oC #[.slice none 0 0] 37) :: (bw, oC #[nv N y] 37) :: (g, oC #[sB (X.drop ((bsz N + 7) / 8 * (i + 1))), iN (u + (bsz N + 7) / 8 * (i + 1))] 81) :: O12)) (by kernel_rfl) (fun _ => by kernel_rfl) (⟨rfl, rfl, rfl, rfl, ⟨en_ncmp, fun w Hw => ncmp_any (bitN (bsz N) (X.drop ((bsz N + 7) / 8 * i))) lv8 hsv N y w ((hN14.get 0 rfl).at (Has.tl (Has.tl (Has.tl (Has.tl Hw))))) (hN0_16.at (Has.tl (Has.tl (Has.tl (Has.tl Hw)))))⟩, fun ac19 wd19 FF19 MM19 => then_n ?_⟩))
    by_cases hs37 : (cmpN (bitN (bsz N) (X.drop ((bsz N + 7) / 8 * i))) N) < ((0 : Nat) : Int)
    · refine wp_cond_true ((FF19.ev 0 rfl).trans (dec_t hs37)) ?_
      have hE := und_yes hI hlt ((cmp_neg _ _).1 hs37)
      refine wp_seq (rg_seq FF19 MM19 [b_ 0, b_ 1, o_] [9, 29, 28, 8, 6, 4, 0, 2, 7] (fun Kt => bv = bv ∧ (#[nv (bitN (bsz N) (X.drop ((bsz N + 7) / 8 * i))) lv8] : Array Value).size = 1 ∧ br = br ∧ (#[.slice none 0 0] : Array Value).size = 1 ∧ (#[nv (bitN (bsz N) (X.drop ((bsz N + 7) / 8 * i))) lv8] : Array Value).size = 1 ∧ (#[nv (bitN (bsz N) (X.drop ((bsz N + 7) / 8 * i))) lv8] : Array Value).all (·.oneCell') = true ∧ (0, 0).2 = 0 ∧ Kt [(7, iN 0), (9, pT bv), (29, iN i), (28, iN k), (8, iN (bsz N)), (6, pT br), (4, pT bw), (0, pT g), (2, iN k)] ((bv, oC #[nv (bitN (bsz N) (X.drop ((bsz N + 7) / 8 * i))) lv8] 37) :: (br, oC #[nv (bitN (bsz N) (X.drop ((bsz N + 7) / 8 * i))) lv8] 37) :: (bw, oC #[nv N y] 37) :: (g, oC #[sB (X.drop ((bsz N + 7) / 8 * (i + 1))), iN (u + (bsz N + 7) / 8 * (i + 1))] 81) :: O12)) (by kernel_rfl) (fun _ => by kernel_rfl) (⟨rfl, rfl, rfl, rfl, rfl, (by kernel_rfl), rfl, fun ac20 wd20 FF20 MM20 => then_n ?_⟩))
      refine wp_ret ?_
      repeat first | refine then_ret ?_ | refine inb_ret ?_
      exact (ret_ct FF20 MM20 (k := 1) (i := 1) (j := 5) (m := 0) Tryd.results47 rfl rfl rfl Tryd.underlying37 rfl (by kernel_rfl) rfl (by rw [hE]; exact ⟨lv8, rfl, MM20.turn (Has.tl H) 3 rfl (fun _ hx => List.mem_cons_of_mem _ (List.mem_cons_of_mem _ (List.mem_cons_of_mem _ (List.mem_cons_of_mem _ (hz17 _ hx))))), (hN14.get 0 rfl).at (Has.tl (Has.tl (Has.tl (Has.tl MM20.hasL)))), fun q hq => Nat.le_trans hsz (hfr q hq)⟩))
    · refine wp_cond_false ((FF19.ev 0 rfl).trans (dec_f hs37)) ?_
      have hno := fun h => hs37 ((cmp_neg _ _).2 h)
      refine wp_skip ?_
      refine inb_n (then_n ?_)
      refine rg_seq FF19 MM19 [o_, o_] [9, 29, 28, 8, 6, 4, 0, 2] (fun Kt => i + 1 < 9223372036854775808 ∧ Kt [(29, iN (i + 1)), (9, pT bv), (28, iN k), (8, iN (bsz N)), (6, pT br), (4, pT bw), (0, pT g), (2, iN k)] ((bv, oC #[nv (bitN (bsz N) (X.drop ((bsz N + 7) / 8 * i))) lv8] 37) :: (br, oC #[.slice none 0 0] 37) :: (bw, oC #[nv N y] 37) :: (g, oC #[sB (X.drop ((bsz N + 7) / 8 * (i + 1))), iN (u + (bsz N + 7) / 8 * (i + 1))] 81) :: O12)) (by kernel_rfl) (fun _ => by kernel_rfl) (⟨(by omega), fun ac21 wd21 FF21 MM21 => ?_⟩)
      have hd := cnt_of (FF21.get 0 rfl)
      refine then_n ⟨⟨O12, i + 1, by omega, hz17, und_no hI hlt hno, FF21.pick [0, 2, 3, 4, 5, 6, 7], (MM21.dropAt 0)⟩, ?_⟩
      rw [hc, hd]; omega
  · skip
    refine then_n (.inr ⟨(FF6.ev 0 rfl).trans (dec_f hlt), ?_⟩)
    have hik : i = k := by omega
    subst hik
    have hE := und_end hI
    refine then_n ?_
    refine wp_seq (rg_seq FF6 MM6 [o_, b_ 0, o_] [29, 28, 8, 6, 4, 0, 2, 7] (fun Kt => br = br ∧ (#[.slice none 0 0] : Array Value).size = 1 ∧ (#[.slice none 0 0] : Array Value).size = 1 ∧ (#[.slice none 0 0] : Array Value).all (·.oneCell') = true ∧ (0, 0).2 = 0 ∧ Kt [(7, iN 3), (29, iN i), (28, iN i), (8, iN (bsz N)), (6, pT br), (4, pT bw), (0, pT g), (2, iN i)] ((br, oC #[.slice none 0 0] 37) :: (bw, oC #[nv N y] 37) :: (g, oC #[sB (X.drop ((bsz N + 7) / 8 * i)), iN (u + (bsz N + 7) / 8 * i)] 81) :: O1)) (by kernel_rfl) (fun _ => by kernel_rfl) (⟨rfl, rfl, rfl, (by kernel_rfl), rfl, fun ac22 wd22 FF22 MM22 => then_n ?_⟩))
    refine wp_ret ?_
    repeat first | refine then_ret ?_ | refine inb_ret ?_
    exact (ret_ct FF22 MM22 (k := 1) (i := 0) (j := 4) (m := 0) Tryd.results47 rfl rfl rfl Tryd.underlying37 rfl (by kernel_rfl) rfl (by rw [hE]; exact ⟨.slice none 0 0, rfl, MM22.turn (Has.tl H) 2 rfl (fun _ hx => List.mem_cons_of_mem _ (List.mem_cons_of_mem _ (List.mem_cons_of_mem _ (hsb _ hx)))), natNew_nil _ _⟩))
theorem tunder_any (g : Nat) (X : List Nat) (u : Nat) (hX : ∀ i, X.getD i 0 < 256) (hu : u < 4611686018427000000) (N : Nat) (y : Value) (k : Nat) (h1 : 1 ≤ bsz N) (hb : bsz N ≤ 1024) (hk1 : 1 ≤ k) (hk : k ≤ 16) (w0 : World) (hg : w0.heap[g]? = some (TB X u)) (hN : NatIn w0 (nv N y) N) (hne : ∀ g', (nv N y).ownBlock = some g' → g' ≠ g) :
    Calls Tryd.prog 47 #[pT g, .agg #[nv N y], iN k] w0 fun e w' => ∃ v, e = .returned (.tuple #[.agg #[nv (undN N (bsz N) k X).1 v], iN ((undN N (bsz N) k X).2.1)]) ∧ Turn g (TB (X.drop (undN N (bsz N) k X).2.2) (u + (undN N (bsz N) k X).2.2)) w0 w' ∧ NatNew w0.heap.size w' (nv (undN N (bsz N) k X).1 v) (undN N (bsz N) k X).1 := by
  obtain ⟨O, q1, q2, q3⟩ := nat1_sep hN hg hne
  exact tunder_O g X u hX hu N y k O q3 h1 hb hk1 hk w0 q1 q2
end Go.Proofs.YtlljedijldkcbaaDoor
namespace Go.Proofs.YtlljedijldkcbaaDoor
open Go.RowKit
/-- What may be a table: a ratio, a reach, a middle. -/
def TOk (a b r m : Nat) : Prop := 1 ≤ b ∧ b < a ∧ a ≤ 16 ∧ r ≤ m ∧ m + r ≤ 8
/-- .. of any whole numbers. -/
def TOz (a b r m : Int) : Prop := 1 ≤ b ∧ b < a ∧ a ≤ 16 ∧ 0 ≤ r ∧ r ≤ m ∧ m + r ≤ 8
/-- The weight of a number. -/
def wgZ (a b r m : Nat) (n : Int) : Nat := if (m : Int) - r ≤ n ∧ n ≤ m + r then b ^ (n - m).natAbs * a ^ (r - (n - m).natAbs) else 0
/-- Those of the first i numbers together. -/
def toN (a b r m : Nat) : Nat → Nat
  | 0 => 0
  | i + 1 => toN a b r m i + wgZ a b r m ((m - r + i : Nat) : Int)
theorem wg_in {a b r m : Nat} {n : Int} (h : (m : Int) - r ≤ n) (h2 : n ≤ m + r) : wgZ a b r m n = b ^ (n - m).natAbs * a ^ (r - (n - m).natAbs) := if_pos ⟨h, h2⟩
theorem wg_lo {a b r m : Nat} {n : Int} (h : n < (m : Int) - r) : wgZ a b r m n = 0 := if_neg fun q => by omega
theorem wg_hi {a b r m : Nat} {n : Int} (h : n > (m : Int) + r) : wgZ a b r m n = 0 := if_neg fun q => by omega
theorem pow16 {a d : Nat} (h : a ≤ 16) : a ^ d ≤ 16 ^ d := Nat.pow_le_pow_left h d
theorem wg_le {a b r m : Nat} (hk : TOk a b r m) (n : Int) : wgZ a b r m n ≤ 65536 := by
  obtain ⟨h1, h2, h3, h4, h5⟩ := hk
  unfold wgZ
  split
  · rename_i h
    have e : 16 ^ (n - m).natAbs * 16 ^ (r - (n - m).natAbs) = 16 ^ r := by rw [← Nat.pow_add]; congr 1; omega
    have h6 : 16 ^ r ≤ 16 ^ 4 := Nat.pow_le_pow_right (by decide) (by omega)
    exact Nat.le_trans (Nat.mul_le_mul (pow16 (by omega)) (pow16 h3)) (by rw [e]; exact h6)
  · exact Nat.zero_le _
theorem wg_pos {a b r m : Nat} (hk : TOk a b r m) {n : Int} (h : (m : Int) - r ≤ n) (h2 : n ≤ m + r) : 0 < wgZ a b r m n := by
  rw [wg_in h h2]; exact Nat.mul_pos (Nat.pow_pos (by have := hk.1; omega)) (Nat.pow_pos (by have := hk.2.1; omega))
theorem wgi_pos {a b r m : Nat} (hk : TOk a b r m) {i : Nat} (h : i < 2 * r + 1) : 0 < wgZ a b r m ((m - r + i : Nat) : Int) := wg_pos hk (by have := hk.2.2.2.1; omega) (by have := hk.2.2.2.1; omega)
theorem to_le {a b r m : Nat} (hk : TOk a b r m) : ∀ i, toN a b r m i ≤ 65536 * i
  | 0 => Nat.le_refl _
  | i + 1 => by have := to_le hk i; have := wg_le hk ((m - r + i : Nat) : Int); rw [toN]; omega
theorem to_mono (a b r m : Nat) : ∀ {i j : Nat}, i ≤ j → toN a b r m i ≤ toN a b r m j
  | i, 0, h => by rw [Nat.le_zero.1 h]; exact Nat.le_refl _
  | i, j + 1, h => by
    rcases Nat.lt_or_ge j i with h1 | h1
    · rw [show i = j + 1 by omega]; exact Nat.le_refl _
    · exact Nat.le_trans (to_mono a b r m h1) (Nat.le_add_right _ _)
theorem to_pos {a b r m : Nat} (hk : TOk a b r m) : 1 ≤ toN a b r m (2 * r + 1) := Nat.le_trans (Nat.lt_of_lt_of_le (wgi_pos hk (i := 2 * r) (by omega)) (Nat.le_add_left _ _)) (Nat.le_refl _)
theorem to_small {a b r m : Nat} (hk : TOk a b r m) {i : Nat} (h : i ≤ 9) : toN a b r m i < 1048576 := by have := to_le hk i; omega
/-- At which number a word stands, the first i left out. -/
def atN (a b r m w : Nat) : Nat → Nat → Nat
  | 0, i => i
  | k + 1, i => if w < toN a b r m (i + 1) then i else atN a b r m w k (i + 1)
theorem atw_of {a b r m w i : Nat} (h1 : toN a b r m i ≤ w) (h2 : w < toN a b r m (i + 1)) : ∀ {k j : Nat}, j ≤ i → i < j + k → atN a b r m w k j = i
  | 0, j, hj, hk => by omega
  | k + 1, j, hj, hk => by
    rw [atN]
    rcases Nat.lt_or_ge j i with h | h
    · rw [if_neg (Nat.not_lt.2 (Nat.le_trans (to_mono a b r m h) h1))]; exact atw_of h1 h2 h (by omega)
    · obtain rfl : j = i := by omega
      exact if_pos h2
/-- The number of a word. -/
def aN (a b r m w : Nat) : Nat := if w < toN a b r m (2 * r + 1) then m - r + atN a b r m w (2 * r + 1) 0 else 0
theorem a_yes {a b r m w i : Nat} (hi : i < 2 * r + 1) (h1 : toN a b r m i ≤ w) (h2 : w < toN a b r m (i + 1)) : aN a b r m w = m - r + i := by
  rw [aN, if_pos (Nat.lt_of_lt_of_le h2 (to_mono a b r m hi)), atw_of h1 h2 (Nat.zero_le _) (by omega)]
theorem a_no {a b r m w : Nat} (h : toN a b r m (2 * r + 1) ≤ w) : aN a b r m w = 0 := if_neg (Nat.not_lt.2 h)
theorem atw_lt {a b r m w i : Nat} (hi : i < 2 * r + 1) (h2 : w < toN a b r m (i + 1)) : w < toN a b r m (2 * r + 1) := Nat.lt_of_lt_of_le h2 (to_mono a b r m hi)
theorem wg_up {a b r m d : Nat} (h : d < r) : wgZ a b r m ((m + d : Nat) : Int) * b = wgZ a b r m ((m + d + 1 : Nat) : Int) * a := by
  rw [wg_in (by omega) (by omega), wg_in (by omega) (by omega), show (((m + d : Nat) : Int) - m).natAbs = d by omega, show (((m + d + 1 : Nat) : Int) - m).natAbs = d + 1 by omega, show r - d = r - (d + 1) + 1 by omega, Nat.pow_succ, Nat.pow_succ]
  simp only [Nat.mul_assoc, Nat.mul_comm, Nat.mul_left_comm]
theorem wg_even {a b r m d : Nat} (h : d ≤ r) : wgZ a b r m ((m : Int) + d) = wgZ a b r m ((m : Int) - d) := by
  rw [wg_in (by omega) (by omega), wg_in (by omega) (by omega), show ((m : Int) + d - m).natAbs = d by omega, show ((m : Int) - d - m).natAbs = d by omega]
end Go.Proofs.YtlljedijldkcbaaDoor
namespace Go.Proofs.YtlljedijldkcbaaDoor
open Go.RowKit
theorem qok {N : Nat} (h : N < 18446744073709551616 ^ 100) : qsz N < 1000000 := Nat.lt_of_le_of_lt (qsz_le h) (by decide)
theorem qok4 {N : Nat} (h : N < 18446744073709551616 ^ 100) : qsz N < 10000 := Nat.lt_of_le_of_lt (qsz_le h) (by decide)
theorem qok3 {N : Nat} (h : N < 18446744073709551616 ^ 100) : qsz N ≤ 1000 := Nat.le_trans (qsz_le h) (by decide)
theorem prN2 (a b : Nat) : prN [a, b] = a * b := by simp [prN]
theorem decN_of {N n : Nat} (h : N < 10 ^ n) (_hn : 0 < n) (h2 : 10 ^ (n - 1) ≤ N) : decN N = decK n N := by
  have h0 : N ≠ 0 := fun e => by have := dpw_pos (n - 1); omega
  rw [decN_K h0, ← dsz_of h (.inr h2)]
end Go.Proofs.YtlljedijldkcbaaDoor
namespace Go.Proofs.YtlljedijldkcbaaDoor
open Go.RowKit
theorem en_kleast : Enters Tryd.prog 11 := fun args w => by simp [go_sem]
theorem en_kmost : Enters Tryd.prog 13 := fun args w => by simp [go_sem]
theorem en_kcount : Enters Tryd.prog 38 := fun args w => by simp [go_sem]
theorem en_kpower : Enters Tryd.prog 43 := fun args w => by simp [go_sem]
theorem en_kweight : Enters Tryd.prog 20 := fun args w => by simp [go_sem]
theorem en_ktotal : Enters Tryd.prog 16 := fun args w => by simp [go_sem]
theorem en_kedge : Enters Tryd.prog 18 := fun args w => by simp [go_sem]
theorem en_kat : Enters Tryd.prog 21 := fun args w => by simp [go_sem]
theorem en_kdraw : Enters Tryd.prog 26 := fun args w => by simp [go_sem]
theorem en_knew : Enters Tryd.prog 36 := fun args w => by simp [go_sem]
theorem en_kratio : Enters Tryd.prog 56 := fun args w => by simp [go_sem]
theorem en_kspan : Enters Tryd.prog 57 := fun args w => by simp [go_sem]
/-- A table: its ratio, its reach, its middle. -/
abbrev KB (a b r m : Nat) : Obj := .cells #[iN a, iN b, iN r, iN m] 73
def KO (O : Blks) (g a b r m : Nat) : Prop := (g, KB a b r m) ∈ O
theorem KO.mono {O O' : Blks} {g a b r m : Nat} (h : KO O g a b r m) (hs : ∀ x ∈ O, x ∈ O') : KO O' g a b r m := hs _ h
theorem KO.at {w : World} {O : Blks} {g a b r m : Nat} (h : KO O g a b r m) (H : Has w O) : w.heap[g]? = some (KB a b r m) := Has.mem H h
set_option maxRecDepth 100000 in
theorem kleast_T (g : Nat) (a b r m : Nat) (hk : TOk a b r m)  (w0 : World) (hg : w0.heap[g]? = some (KB a b r m)) :
    Calls Tryd.prog 11 #[pT g] w0 fun e w' => e = .returned (iN (m - r)) ∧ Turn g (KB a b r m) w0 w' := by
  have ⟨k1, k2, k3, k4, k5⟩ := hk
  refine enter_fr Tryd.func11 rfl Tryd.ntmps11 (by simp) fun ac (FF : Fr 14 ac [(0, pT g)]) => ?_
  have MM : MemS (fun k => k < w0.heap.size ∧ ∀ x ∈ (g, oC #[iN a, iN b, iN r, iN m] 73) :: ([] : Blks), x.1 ≠ k) w0 w0 ((g, oC #[iN a, iN b, iN r, iN m] 73) :: ([] : Blks)) [] := MemS.startN (one_has hg) ⟨fun y hy => (nomatch hy), trivial⟩
  refine wp_seq (rg_seq FF MM [o_] [0, 2] (fun Kt => Kt [(2, iN 0), (0, pT g)] ((g, oC #[iN a, iN b, iN r, iN m] 73) :: ([] : Blks))) (by kernel_rfl) (fun _ => by kernel_rfl) (fun ac1 wd1 FF1 MM1 => then_n ?_))
  refine wp_seq ?_
  refine wp_seq (rg_seq FF1 MM1 [o_, f_ (.bool false)] [2, 0, 4] (fun Kt => RunV Tryd.prog [(3, pT g), (2, iN 0), (0, pT g)] ((g, oC #[iN a, iN b, iN r, iN m] 73) :: ([] : Blks)) (opAt Tryd.f11 1 1) (.bool false) ∧ Kt [(4, .bool false), (2, iN 0), (0, pT g)] ((g, oC #[iN a, iN b, iN r, iN m] 73) :: ([] : Blks))) (by kernel_rfl) (fun _ => by kernel_rfl) (⟨(ptrSome_ok (t := 28) (t' := 28) (x := (.tmp 3)) (y := (.const (.pointer none))) (by kernel_rfl) rfl rfl Tryd.underlying28), fun ac2 wd2 FF2 MM2 => then_n ?_⟩))
  refine wp_cond_false (FF2.ev 0 rfl) ?_
  refine wp_skip ?_
  refine then_n ?_
  refine wp_seq (rg_draw FF2 MM2 [.inl (pT g), .inl (pT g), .inl (.pointer (some ⟨g, 3, none⟩)), .inl (iN m), .inl (pT g), .inl (pT g), .inl (.pointer (some ⟨g, 2, none⟩)), .inl (iN r), .inl (iN (m - r)), .inl (iN (m - r))] [] [o_, o_, o_, l_ 0 (iN m), o_, o_, o_, l_ 0 (iN r), o_, o_] [] [2, 0] (fun nb => [g = g, (#[iN a, iN b, iN r, iN m] : Array Value)[3]? = some (iN m), g = g, (#[iN a, iN b, iN r, iN m] : Array Value)[2]? = some (iN r), r ≤ m, m - r < 9223372036854775808]) (fun nb Kt => Kt [(2, iN (m - r)), (0, pT g)] ((g, oC #[iN a, iN b, iN r, iN m] 73) :: ([] : Blks))) (by kernel_rfl) (by kernel_rfl) (by kernel_rfl) (fun _ => by kernel_rfl) (fun _ _ => by kernel_rfl) trivial (fun nb => ⟨rfl, rfl, rfl, rfl, (by omega), (by omega), trivial⟩) (fun nb => fun ac3 wd3 FF3 MM3 => then_n ?_))
  refine wp_ret ?_
  repeat first | refine then_ret ?_ | refine inb_ret ?_
  exact (ret_fr FF3 0 Tryd.results11 rfl ⟨rfl, MM3.turn (O := []) (fun i x hx => by simp at hx) 0 rfl (fun x hx => (nomatch hx))⟩)
theorem kleast_any (g : Nat) (a b r m : Nat) (hk : TOk a b r m) (w : World) (hg : w.heap[g]? = some (KB a b r m)) : Calls Tryd.prog 11 #[pT g] w fun e w' => e = .returned (iN (m - r)) ∧ Below w.heap.size w w' := (kleast_T g a b r m hk w hg).mono fun _ _ ⟨h1, h2⟩ => ⟨h1, turn_below hg h2⟩
set_option maxRecDepth 100000 in
theorem kmost_T (g : Nat) (a b r m : Nat) (hk : TOk a b r m)  (w0 : World) (hg : w0.heap[g]? = some (KB a b r m)) :
    Calls Tryd.prog 13 #[pT g] w0 fun e w' => e = .returned (iN (m + r)) ∧ Turn g (KB a b r m) w0 w' := by
  have ⟨k1, k2, k3, k4, k5⟩ := hk
  refine enter_fr Tryd.func13 rfl Tryd.ntmps13 (by simp) fun ac (FF : Fr 14 ac [(0, pT g)]) => ?_
  have MM : MemS (fun k => k < w0.heap.size ∧ ∀ x ∈ (g, oC #[iN a, iN b, iN r, iN m] 73) :: ([] : Blks), x.1 ≠ k) w0 w0 ((g, oC #[iN a, iN b, iN r, iN m] 73) :: ([] : Blks)) [] := MemS.startN (one_has hg) ⟨fun y hy => (nomatch hy), trivial⟩
  refine wp_seq (rg_seq FF MM [o_] [0, 2] (fun Kt => Kt [(2, iN 0), (0, pT g)] ((g, oC #[iN a, iN b, iN r, iN m] 73) :: ([] : Blks))) (by kernel_rfl) (fun _ => by kernel_rfl) (fun ac1 wd1 FF1 MM1 => then_n ?_))
  refine wp_seq ?_
  refine wp_seq (rg_seq FF1 MM1 [o_, f_ (.bool false)] [2, 0, 4] (fun Kt => RunV Tryd.prog [(3, pT g), (2, iN 0), (0, pT g)] ((g, oC #[iN a, iN b, iN r, iN m] 73) :: ([] : Blks)) (opAt Tryd.f13 1 1) (.bool false) ∧ Kt [(4, .bool false), (2, iN 0), (0, pT g)] ((g, oC #[iN a, iN b, iN r, iN m] 73) :: ([] : Blks))) (by kernel_rfl) (fun _ => by kernel_rfl) (⟨(ptrSome_ok (t := 28) (t' := 28) (x := (.tmp 3)) (y := (.const (.pointer none))) (by kernel_rfl) rfl rfl Tryd.underlying28), fun ac2 wd2 FF2 MM2 => then_n ?_⟩))
  refine wp_cond_false (FF2.ev 0 rfl) ?_
  refine wp_skip ?_
  refine then_n ?_
  refine wp_seq (rg_draw FF2 MM2 [.inl (pT g), .inl (pT g), .inl (.pointer (some ⟨g, 3, none⟩)), .inl (iN m), .inl (pT g), .inl (pT g), .inl (.pointer (some ⟨g, 2, none⟩)), .inl (iN r), .inl (iN (m + r)), .inl (iN (m + r))] [] [o_, o_, o_, l_ 0 (iN m), o_, o_, o_, l_ 0 (iN r), o_, o_] [] [2, 0] (fun nb => [g = g, (#[iN a, iN b, iN r, iN m] : Array Value)[3]? = some (iN m), g = g, (#[iN a, iN b, iN r, iN m] : Array Value)[2]? = some (iN r), m + r < 9223372036854775808]) (fun nb Kt => Kt [(2, iN (m + r)), (0, pT g)] ((g, oC #[iN a, iN b, iN r, iN m] 73) :: ([] : Blks))) (by kernel_rfl) (by kernel_rfl) (by kernel_rfl) (fun _ => by kernel_rfl) (fun _ _ => by kernel_rfl) trivial (fun nb => ⟨rfl, rfl, rfl, rfl, (by omega), trivial⟩) (fun nb => fun ac3 wd3 FF3 MM3 => then_n ?_))
  refine wp_ret ?_
  repeat first | refine then_ret ?_ | refine inb_ret ?_
  exact (ret_fr FF3 0 Tryd.results13 rfl ⟨rfl, MM3.turn (O := []) (fun i x hx => by simp at hx) 0 rfl (fun x hx => (nomatch hx))⟩)
theorem kmost_any (g : Nat) (a b r m : Nat) (hk : TOk a b r m) (w : World) (hg : w.heap[g]? = some (KB a b r m)) : Calls Tryd.prog 13 #[pT g] w fun e w' => e = .returned (iN (m + r)) ∧ Below w.heap.size w w' := (kmost_T g a b r m hk w hg).mono fun _ _ ⟨h1, h2⟩ => ⟨h1, turn_below hg h2⟩
set_option maxRecDepth 100000 in
theorem kcount_T (g : Nat) (a b r m : Nat) (hk : TOk a b r m)  (w0 : World) (hg : w0.heap[g]? = some (KB a b r m)) :
    Calls Tryd.prog 38 #[pT g] w0 fun e w' => e = .returned (iN (2 * r + 1)) ∧ Turn g (KB a b r m) w0 w' := by
  have ⟨k1, k2, k3, k4, k5⟩ := hk
  refine enter_fr Tryd.func38 rfl Tryd.ntmps38 (by simp) fun ac (FF : Fr 11 ac [(0, pT g)]) => ?_
  have MM : MemS (fun k => k < w0.heap.size ∧ ∀ x ∈ (g, oC #[iN a, iN b, iN r, iN m] 73) :: ([] : Blks), x.1 ≠ k) w0 w0 ((g, oC #[iN a, iN b, iN r, iN m] 73) :: ([] : Blks)) [] := MemS.startN (one_has hg) ⟨fun y hy => (nomatch hy), trivial⟩
  refine wp_seq (rg_seq FF MM [o_] [0, 2] (fun Kt => Kt [(2, iN 0), (0, pT g)] ((g, oC #[iN a, iN b, iN r, iN m] 73) :: ([] : Blks))) (by kernel_rfl) (fun _ => by kernel_rfl) (fun ac1 wd1 FF1 MM1 => then_n ?_))
  refine wp_seq ?_
  refine wp_seq (rg_seq FF1 MM1 [o_, f_ (.bool false)] [2, 0, 4] (fun Kt => RunV Tryd.prog [(3, pT g), (2, iN 0), (0, pT g)] ((g, oC #[iN a, iN b, iN r, iN m] 73) :: ([] : Blks)) (opAt Tryd.f38 1 1) (.bool false) ∧ Kt [(4, .bool false), (2, iN 0), (0, pT g)] ((g, oC #[iN a, iN b, iN r, iN m] 73) :: ([] : Blks))) (by kernel_rfl) (fun _ => by kernel_rfl) (⟨(ptrSome_ok (t := 28) (t' := 28) (x := (.tmp 3)) (y := (.const (.pointer none))) (by kernel_rfl) rfl rfl Tryd.underlying28), fun ac2 wd2 FF2 MM2 => then_n ?_⟩))
  refine wp_cond_false (FF2.ev 0 rfl) ?_
  refine wp_skip ?_
  refine then_n ?_
  refine wp_seq (rg_seq FF2 MM2 [o_, o_, o_, l_ 0 (iN r), o_, o_, o_] [2, 0] (fun Kt => g = g ∧ (#[iN a, iN b, iN r, iN m] : Array Value)[2]? = some (iN r) ∧ 2 * r < 9223372036854775808 ∧ (2 * r) + 1 < 9223372036854775808 ∧ Kt [(2, iN ((2 * r) + 1)), (0, pT g)] ((g, oC #[iN a, iN b, iN r, iN m] 73) :: ([] : Blks))) (by kernel_rfl) (fun _ => by kernel_rfl) (⟨rfl, rfl, (by omega), (by omega), fun ac3 wd3 FF3 MM3 => then_n ?_⟩))
  refine wp_ret ?_
  repeat first | refine then_ret ?_ | refine inb_ret ?_
  exact (ret_fr FF3 0 Tryd.results38 rfl ⟨rfl, MM3.turn (O := []) (fun i x hx => by simp at hx) 0 rfl (fun x hx => (nomatch hx))⟩)
theorem kcount_any (g : Nat) (a b r m : Nat) (hk : TOk a b r m) (w : World) (hg : w.heap[g]? = some (KB a b r m)) : Calls Tryd.prog 38 #[pT g] w fun e w' => e = .returned (iN (2 * r + 1)) ∧ Below w.heap.size w w' := (kcount_T g a b r m hk w hg).mono fun _ _ ⟨h1, h2⟩ => ⟨h1, turn_below hg h2⟩
end Go.Proofs.YtlljedijldkcbaaDoor
namespace Go.Proofs.YtlljedijldkcbaaDoor
open Go.RowKit
theorem bsz5 {a : Nat} (h : a ≤ 16) : bsz a ≤ 5 := bsz_le (by omega)
theorem pow_tab {a n : Nat} (ha : a ≤ 16) (hn : n ≤ 8) : PowOk a n := by
  have h := bsz5 ha
  rcases Nat.eq_zero_or_pos (bsz a) with e | e
  · exact .inl e
  · refine .inr (Nat.le_trans (Nat.le_trans hn (by decide : 8 ≤ 65536 / 5)) ?_)
    exact Nat.div_le_div_left h e
theorem b100 {N : Nat} (h : N < 18446744073709551616) : N < 18446744073709551616 ^ 100 := Nat.lt_of_lt_of_le h (Nat.le_self_pow (by decide) _)
theorem pow_lt16 {a n : Nat} (ha : a ≤ 16) (hn : n ≤ 8) : a ^ n < 18446744073709551616 := Nat.lt_of_le_of_lt (Nat.le_trans (pow16 ha) (Nat.pow_le_pow_right (by decide) hn)) (by decide)
set_option maxRecDepth 100000 in
theorem kpower_O (O : Blks) (hD : Distinct O) (a n : Nat) (ha : a ≤ 16) (hn : n ≤ 8) (w0 : World) (H : Has w0 O) :
    Calls Tryd.prog 43 #[iN a, iN n] w0 fun e w' => ∃ v, e = .returned (.agg #[nv (a ^ n) v]) ∧ Below w0.heap.size w0 w' ∧ NatNew w0.heap.size w' (nv (a ^ n) v) (a ^ n) := by
  refine enter_fr Tryd.func43 rfl Tryd.ntmps43 (by simp) fun ac (FF : Fr 16 ac [(0, iN a), (1, iN n)]) => ?_
  have MM : MemS (fun k => k < w0.heap.size ∧ ∀ x ∈ O, x.1 ≠ k) w0 w0 O [] := MemS.startN H hD
  refine wp_seq (rg_seq FF MM [o_] [0, 1, 4] (fun Kt => ∀ br, Kt [(4, pT br), (0, iN a), (1, iN n)] ((br, oC #[.slice none 0 0] 37) :: O)) (by kernel_rfl) (fun _ => by kernel_rfl) (fun br => fun ac1 wd1 FF1 MM1 => then_n ?_))
  refine wp_seq (wp_region_list ?_)
  refine rg_part 2 FF1 MM1 [o_, w_ 1] [4, 1, 9] (fun Kt => a < 18446744073709551616 ∧ Kt [(9, iW a), (4, pT br), (1, iN n)] ((br, oC #[.slice none 0 0] 37) :: O)) (by kernel_rfl) (fun _ => by kernel_rfl) (⟨(by omega), fun ac2 wd2 FF2 MM2 => ?_⟩)
  refine st_callE [4, 1, 10] FF2 (d := 10) (mk := fun v => .agg #[nv (a) v]) en_nof rfl rfl (nof_any a (by omega) _) rfl (by kernel_rfl) (by decide) fun ac4 wd4 lv3 (FF4 : Fr 16 ac4 [(10, aG #[nv a lv3]), (4, pT br), (1, iN n)]) hr5 => ?_
  obtain ⟨O6, MM70, hN8, hs9⟩ := MemS.addNats (K := [(br, oC #[.slice none 0 0] 37)]) (O := O) MM2 hr5.1 hr5.2 (Nats.nil O)
  have MM7 : MemS (fun k => k < w0.heap.size ∧ ∀ x ∈ O, x.1 ≠ k) w0 wd4 ((br, oC #[.slice none 0 0] 37) :: O6) [] := MM70
  refine rg_part 1 FF4 MM7 [o_] [10, 4, 11] (fun Kt => Kt [(11, iN n), (10, aG #[nv a lv3]), (4, pT br)] ((br, oC #[.slice none 0 0] 37) :: O6)) (by kernel_rfl) (fun _ => by kernel_rfl) (fun ac10 wd10 FF10 MM10 => ?_)
  refine st_callE [4, 12] FF10 (d := 12) (mk := fun v => .tuple #[.agg #[nv (a ^ n) v], iN 0]) en_npow rfl rfl (npow_ok a lv3 (qok4 (b100 (by omega))) n (pow_tab ha hn) (by omega) _ ((hN8.get 0 rfl).at (Has.tl MM10.hasL))) rfl (by kernel_rfl) (by decide) fun ac12 wd12 lv11 (FF12 : Fr 16 ac12 [(12, .tuple #[aG #[nv (a ^ n) lv11], iN 0]), (4, pT br)]) hr13 => ?_
  have hfr14 : ∀ g, (nv (a ^ n) lv11).ownBlock = some g → w0.heap.size ≤ g := fun g hg => Nat.le_trans MM10.size (hr13.2.2 g hg)
  obtain ⟨O15, MM160, hN17, hs18⟩ := MemS.addNats (K := [(br, oC #[.slice none 0 0] 37)]) (O := O6) MM10 hr13.1 hr13.2 hN8
  have MM16 : MemS (fun k => k < w0.heap.size ∧ ∀ x ∈ O, x.1 ≠ k) w0 wd12 ((br, oC #[.slice none 0 0] 37) :: O15) [] := MM160
  have hz19 : ∀ x ∈ O, x ∈ O15 := fun x hx => hs18 x (hs9 x hx)
  refine rg_part 6 FF12 MM16 [o_, o_, o_, o_, b_ 0, o_] [4, 5] (fun Kt => ∀ bp, bp = bp ∧ (#[.slice none 0 0] : Array Value).size = 1 ∧ (#[nv (a ^ n) lv11] : Array Value).size = 1 ∧ (#[nv (a ^ n) lv11] : Array Value).all (·.oneCell') = true ∧ (0, 0).2 = 0 ∧ Kt [(5, pT bp), (4, pT br)] ((bp, oC #[nv (a ^ n) lv11] 37) :: (br, oC #[.slice none 0 0] 37) :: O15)) (by kernel_rfl) (fun _ => by kernel_rfl) (fun bp => ⟨rfl, rfl, rfl, (by kernel_rfl), rfl, fun ac20 wd20 FF20 MM20 => ?_⟩)
  refine wpl_nil (then_n ?_)
  refine wp_seq (rg_seq FF20 MM20 [b_ 0, b_ 1] [5, 4] (fun Kt => bp = bp ∧ (#[nv (a ^ n) lv11] : Array Value).size = 1 ∧ br = br ∧ (#[.slice none 0 0] : Array Value).size = 1 ∧ (#[nv (a ^ n) lv11] : Array Value).size = 1 ∧ (#[nv (a ^ n) lv11] : Array Value).all (·.oneCell') = true ∧ (0, 0).2 = 0 ∧ Kt [(5, pT bp), (4, pT br)] ((bp, oC #[nv (a ^ n) lv11] 37) :: (br, oC #[nv (a ^ n) lv11] 37) :: O15)) (by kernel_rfl) (fun _ => by kernel_rfl) (⟨rfl, rfl, rfl, rfl, rfl, (by kernel_rfl), rfl, fun ac21 wd21 FF21 MM21 => then_n ?_⟩))
  refine wp_ret ?_
  repeat first | refine then_ret ?_ | refine inb_ret ?_
  exact (retc FF21 MM21 (k := 1) (i := 1) (j := 1) Tryd.results43 rfl rfl Tryd.underlying37 rfl (by kernel_rfl) rfl ⟨lv11, rfl, MM21.belowN H (fun _ hx => List.mem_cons_of_mem _ (List.mem_cons_of_mem _ (hz19 _ hx))), ⟨(hN17.get 0 rfl).at (Has.tl (Has.tl MM21.hasL)), hfr14⟩⟩)
theorem kpower_any (a n : Nat) (ha : a ≤ 16) (hn : n ≤ 8) (w0 : World) : Calls Tryd.prog 43 #[iN a, iN n] w0 fun e w' => ∃ v, e = .returned (.agg #[nv (a ^ n) v]) ∧ Below w0.heap.size w0 w' ∧ NatNew w0.heap.size w' (nv (a ^ n) v) (a ^ n) := kpower_O [] trivial a n ha hn w0 (fun i x hx => by simp at hx)
theorem max_ok {P : Program} {l : Slots} {L : Blks} {o : Oper} {t u : TypeId} {x y : Operand} {p q z : Int} (ho : o.op = .call ⟨.builtin .max, #[x, y], #[t, u]⟩) (hx : evO l x = some (.int .i64 p)) (hy : evO l y = some (.int .i64 q)) (hz : max p q = z) : RunV P l L o (.int .i64 z) := fun ρ w Ag _ => by
  have h1 := Ag x _ hx
  have h2 := Ag y _ hy
  simp [execOp, ho, resolve, invoke, builtin, h1, h2, Lib.run_max_ints, hz]
/-- A row of numbers. -/
def RowNs (w : World) (p : Option Addr) (ns : List Nat) : Prop := ∃ xs, NatsIn w p ns xs
theorem rowNs_st (ns : List Nat) : ∀ (v : Value) (w w' : World), RowNs w (pOf v) ns → Below w.heap.size w w' → RowNs w' (pOf v) ns := fun _ _ _ ⟨xs, h⟩ hb => ⟨xs, h.keep hb⟩
theorem nadd2r {p : Option Addr} (M N : Nat) (hs : M + N < 18446744073709551616 ^ 100) (w0 : World) (h : RowNs w0 p [M, N]) : Calls Tryd.prog 31 #[.slice p 2 2] w0 fun e w' => ∃ v, e = .returned (.agg #[nv (M + N) v]) ∧ Below w0.heap.size w0 w' ∧ NatNew w0.heap.size w' (nv (M + N) v) (M + N) := by
  obtain ⟨xs, h⟩ := h
  exact nadd_any p 2 [M, N] xs (qok (by simpa using hs)) (show 2 < 1000 by decide) w0 h
theorem nmul2r {p : Option Addr} (M N : Nat) (hM : M < 18446744073709551616 ^ 100) (hN : N < 18446744073709551616 ^ 100) (w0 : World) (h : RowNs w0 p [M, N]) : Calls Tryd.prog 34 #[.slice p 2 2] w0 fun e w' => ∃ v, e = .returned (.agg #[nv (M * N) v]) ∧ Below w0.heap.size w0 w' ∧ NatNew w0.heap.size w' (nv (M * N) v) (M * N) := by
  obtain ⟨xs, h⟩ := h
  have h := nmul_any p 2 [M, N] xs (fun j hj => by
    have : j = 0 ∨ j = 1 := by simp at hj; omega
    rcases this with rfl | rfl
    · exact qok3 hM
    · exact qok3 hN) (show 2 ≤ 100 by decide) w0 h
  rw [prN2] at h
  exact h
set_option maxRecDepth 100000 in
theorem kweight_lo (g : Nat) (a b r m : Nat) (hk : TOk a b r m) (n : Int) (hn : n < (m : Int) - r) (_h1 : -9223372036854775808 ≤ n) (w0 : World) (hg : w0.heap[g]? = some (KB a b r m)) :
    Calls Tryd.prog 20 #[pT g, .int .i64 (n : Int)] w0 fun e w' => ∃ v, e = .returned (.agg #[nv (0) v]) ∧ Turn g (KB a b r m) w0 w' ∧ NatNew w0.heap.size w' (nv (0) v) (0) := by
  have ⟨k1, k2, k3, k4, k5⟩ := hk
  refine enter_fr Tryd.func20 rfl Tryd.ntmps20 (by simp) fun ac (FF : Fr 53 ac [(0, pT g), (1, .int .i64 (n : Int))]) => ?_
  have MM : MemS (fun k => k < w0.heap.size ∧ ∀ x ∈ (g, oC #[iN a, iN b, iN r, iN m] 73) :: ([] : Blks), x.1 ≠ k) w0 w0 ((g, oC #[iN a, iN b, iN r, iN m] 73) :: ([] : Blks)) [] := MemS.startN (one_has hg) ⟨fun y hy => (nomatch hy), trivial⟩
  refine wp_seq (rg_seq FF MM [o_] [0, 1, 4] (fun Kt => ∀ br, Kt [(4, pT br), (0, pT g), (1, .int .i64 (n : Int))] ((br, oC #[.slice none 0 0] 37) :: (g, oC #[iN a, iN b, iN r, iN m] 73) :: ([] : Blks))) (by kernel_rfl) (fun _ => by kernel_rfl) (fun br => fun ac1 wd1 FF1 MM1 => then_n ?_))
  refine wp_seq ?_
  refine wp_seq (rg_seq FF1 MM1 [o_, f_ (.bool false), o_, o_, o_, u_ 1 (iN (m - r)), w_ 6, o_, o_, o_, o_, o_, o_, o_] [4, 0, 1, 19] (fun Kt => RunV Tryd.prog [(6, pT g), (4, pT br), (0, pT g), (1, .int .i64 (n : Int))] ((br, oC #[.slice none 0 0] 37) :: (g, oC #[iN a, iN b, iN r, iN m] 73) :: ([] : Blks)) (opAt Tryd.f20 1 1) (.bool false) ∧ CallP Tryd.prog 11 [pT g] ((br, oC #[.slice none 0 0] 37) :: (g, oC #[iN a, iN b, iN r, iN m] 73) :: ([] : Blks)) (iN (m - r)) ∧ n < ((m - r : Nat) : Int) ∧ Kt [(19, .bool true), (4, pT br), (0, pT g), (1, .int .i64 (n : Int))] ((br, oC #[.slice none 0 0] 37) :: (g, oC #[iN a, iN b, iN r, iN m] 73) :: ([] : Blks))) (by kernel_rfl) (fun _ => by kernel_rfl) (⟨(ptrSome_ok (t := 28) (t' := 28) (x := (.tmp 6)) (y := (.const (.pointer none))) (by kernel_rfl) rfl rfl Tryd.underlying28), ⟨en_kleast, fun w Hw => kleast_any g a b r m hk w (Hw 1 _ rfl)⟩, (by omega), fun ac2 wd2 FF2 MM2 => then_n ?_⟩))
  refine wp_cond_true (FF2.ev 0 rfl) ?_
  refine wp_seq (rg_seq FF2 MM2 [o_, b_ 0] [4, 0, 1] (fun Kt => br = br ∧ (#[.slice none 0 0] : Array Value).size = 1 ∧ (#[.slice none 0 0] : Array Value).size = 1 ∧ (#[.slice none 0 0] : Array Value).all (·.oneCell') = true ∧ (0, 0).2 = 0 ∧ Kt [(4, pT br), (0, pT g), (1, .int .i64 (n : Int))] ((br, oC #[.slice none 0 0] 37) :: (g, oC #[iN a, iN b, iN r, iN m] 73) :: ([] : Blks))) (by kernel_rfl) (fun _ => by kernel_rfl) (⟨rfl, rfl, rfl, (by kernel_rfl), rfl, fun ac3 wd3 FF3 MM3 => then_n ?_⟩))
  refine wp_ret ?_
  repeat first | refine then_ret ?_ | refine inb_ret ?_
  exact (retc FF3 MM3 (k := 1) (i := 0) (j := 0) Tryd.results20 rfl rfl Tryd.underlying37 rfl (by kernel_rfl) rfl ⟨.slice none 0 0, rfl, MM3.turn (O := []) (fun i x hx => by simp at hx) 1 rfl (fun x hx => (nomatch hx)), natNew_nil _ _⟩)
set_option maxRecDepth 100000 in
theorem kweight_hi (g : Nat) (a b r m : Nat) (hk : TOk a b r m) (n : Int) (hn : n > (m : Int) + r) (_h2 : n < 9223372036854775808) (w0 : World) (hg : w0.heap[g]? = some (KB a b r m)) :
    Calls Tryd.prog 20 #[pT g, .int .i64 (n : Int)] w0 fun e w' => ∃ v, e = .returned (.agg #[nv (0) v]) ∧ Turn g (KB a b r m) w0 w' ∧ NatNew w0.heap.size w' (nv (0) v) (0) := by
  have ⟨k1, k2, k3, k4, k5⟩ := hk
  refine enter_fr Tryd.func20 rfl Tryd.ntmps20 (by simp) fun ac (FF : Fr 53 ac [(0, pT g), (1, .int .i64 (n : Int))]) => ?_
  have MM : MemS (fun k => k < w0.heap.size ∧ ∀ x ∈ (g, oC #[iN a, iN b, iN r, iN m] 73) :: ([] : Blks), x.1 ≠ k) w0 w0 ((g, oC #[iN a, iN b, iN r, iN m] 73) :: ([] : Blks)) [] := MemS.startN (one_has hg) ⟨fun y hy => (nomatch hy), trivial⟩
  refine wp_seq (rg_seq FF MM [o_] [0, 1, 4] (fun Kt => ∀ br, Kt [(4, pT br), (0, pT g), (1, .int .i64 (n : Int))] ((br, oC #[.slice none 0 0] 37) :: (g, oC #[iN a, iN b, iN r, iN m] 73) :: ([] : Blks))) (by kernel_rfl) (fun _ => by kernel_rfl) (fun br => fun ac1 wd1 FF1 MM1 => then_n ?_))
  refine wp_seq ?_
  refine wp_seq (rg_seq FF1 MM1 [o_, f_ (.bool false), o_, o_, o_, u_ 1 (iN (m - r)), u_ 4 (.bool false), o_, o_, o_, o_, u_ 1 (iN (m + r)), w_ 6, o_] [4, 0, 1, 19] (fun Kt => RunV Tryd.prog [(6, pT g), (4, pT br), (0, pT g), (1, .int .i64 (n : Int))] ((br, oC #[.slice none 0 0] 37) :: (g, oC #[iN a, iN b, iN r, iN m] 73) :: ([] : Blks)) (opAt Tryd.f20 1 1) (.bool false) ∧ CallP Tryd.prog 11 [pT g] ((br, oC #[.slice none 0 0] 37) :: (g, oC #[iN a, iN b, iN r, iN m] 73) :: ([] : Blks)) (iN (m - r)) ∧ Value.bool (decide (n < ((m - r : Nat) : Int))) = .bool false ∧ CallP Tryd.prog 13 [pT g] ((br, oC #[.slice none 0 0] 37) :: (g, oC #[iN a, iN b, iN r, iN m] 73) :: ([] : Blks)) (iN (m + r)) ∧ n > ((m + r : Nat) : Int) ∧ Kt [(19, .bool true), (4, pT br), (0, pT g), (1, .int .i64 (n : Int))] ((br, oC #[.slice none 0 0] 37) :: (g, oC #[iN a, iN b, iN r, iN m] 73) :: ([] : Blks))) (by kernel_rfl) (fun _ => by kernel_rfl) (⟨(ptrSome_ok (t := 28) (t' := 28) (x := (.tmp 6)) (y := (.const (.pointer none))) (by kernel_rfl) rfl rfl Tryd.underlying28), ⟨en_kleast, fun w Hw => kleast_any g a b r m hk w (Hw 1 _ rfl)⟩, (dec_f (by omega)), ⟨en_kmost, fun w Hw => kmost_any g a b r m hk w (Hw 1 _ rfl)⟩, (by omega), fun ac2 wd2 FF2 MM2 => then_n ?_⟩))
  refine wp_cond_true (FF2.ev 0 rfl) ?_
  refine wp_seq (rg_seq FF2 MM2 [o_, b_ 0] [4, 0, 1] (fun Kt => br = br ∧ (#[.slice none 0 0] : Array Value).size = 1 ∧ (#[.slice none 0 0] : Array Value).size = 1 ∧ (#[.slice none 0 0] : Array Value).all (·.oneCell') = true ∧ (0, 0).2 = 0 ∧ Kt [(4, pT br), (0, pT g), (1, .int .i64 (n : Int))] ((br, oC #[.slice none 0 0] 37) :: (g, oC #[iN a, iN b, iN r, iN m] 73) :: ([] : Blks))) (by kernel_rfl) (fun _ => by kernel_rfl) (⟨rfl, rfl, rfl, (by kernel_rfl), rfl, fun ac3 wd3 FF3 MM3 => then_n ?_⟩))
  refine wp_ret ?_
  repeat first | refine then_ret ?_ | refine inb_ret ?_
  exact (retc FF3 MM3 (k := 1) (i := 0) (j := 0) Tryd.results20 rfl rfl Tryd.underlying37 rfl (by kernel_rfl) rfl ⟨.slice none 0 0, rfl, MM3.turn (O := []) (fun i x hx => by simp at hx) 1 rfl (fun x hx => (nomatch hx)), natNew_nil _ _⟩)
set_option maxRecDepth 100000 in
theorem kweight_up (g : Nat) (a b r m : Nat) (hk : TOk a b r m) (d : Nat) (hd : d ≤ r) (w0 : World) (hg : w0.heap[g]? = some (KB a b r m)) :
    Calls Tryd.prog 20 #[pT g, iN (m + d)] w0 fun e w' => ∃ v, e = .returned (.agg #[nv (b ^ d * a ^ (r - d)) v]) ∧ Turn g (KB a b r m) w0 w' ∧ NatNew w0.heap.size w' (nv (b ^ d * a ^ (r - d)) v) (b ^ d * a ^ (r - d)) := by
  have ⟨k1, k2, k3, k4, k5⟩ := hk
  refine enter_fr Tryd.func20 rfl Tryd.ntmps20 (by simp) fun ac (FF : Fr 53 ac [(0, pT g), (1, iN (m + d))]) => ?_
  have MM : MemS (fun k => k < w0.heap.size ∧ ∀ x ∈ (g, oC #[iN a, iN b, iN r, iN m] 73) :: ([] : Blks), x.1 ≠ k) w0 w0 ((g, oC #[iN a, iN b, iN r, iN m] 73) :: ([] : Blks)) [] := MemS.startN (one_has hg) ⟨fun y hy => (nomatch hy), trivial⟩
  refine wp_seq (rg_seq FF MM [o_] [0, 1, 4] (fun Kt => ∀ br, Kt [(4, pT br), (0, pT g), (1, iN (m + d))] ((br, oC #[.slice none 0 0] 37) :: (g, oC #[iN a, iN b, iN r, iN m] 73) :: ([] : Blks))) (by kernel_rfl) (fun _ => by kernel_rfl) (fun br => fun ac1 wd1 FF1 MM1 => then_n ?_))
  refine wp_seq ?_
  refine wp_seq (rg_seq FF1 MM1 [o_, f_ (.bool false), o_, o_, o_, u_ 1 (iN (m - r)), w_ 3, o_, o_, o_, o_, u_ 1 (iN (m + r)), w_ 3, o_] [4, 0, 1, 19] (fun Kt => RunV Tryd.prog [(6, pT g), (4, pT br), (0, pT g), (1, iN (m + d))] ((br, oC #[.slice none 0 0] 37) :: (g, oC #[iN a, iN b, iN r, iN m] 73) :: ([] : Blks)) (opAt Tryd.f20 1 1) (.bool false) ∧ CallP Tryd.prog 11 [pT g] ((br, oC #[.slice none 0 0] 37) :: (g, oC #[iN a, iN b, iN r, iN m] 73) :: ([] : Blks)) (iN (m - r)) ∧ ¬ ((m + d) < (m - r)) ∧ CallP Tryd.prog 13 [pT g] ((br, oC #[.slice none 0 0] 37) :: (g, oC #[iN a, iN b, iN r, iN m] 73) :: ([] : Blks)) (iN (m + r)) ∧ ¬ ((m + d) > (m + r)) ∧ Kt [(19, .bool false), (4, pT br), (0, pT g), (1, iN (m + d))] ((br, oC #[.slice none 0 0] 37) :: (g, oC #[iN a, iN b, iN r, iN m] 73) :: ([] : Blks))) (by kernel_rfl) (fun _ => by kernel_rfl) (⟨(ptrSome_ok (t := 28) (t' := 28) (x := (.tmp 6)) (y := (.const (.pointer none))) (by kernel_rfl) rfl rfl Tryd.underlying28), ⟨en_kleast, fun w Hw => kleast_any g a b r m hk w (Hw 1 _ rfl)⟩, (by omega), ⟨en_kmost, fun w Hw => kmost_any g a b r m hk w (Hw 1 _ rfl)⟩, (by omega), fun ac2 wd2 FF2 MM2 => then_n ?_⟩))
  refine wp_cond_false (FF2.ev 0 rfl) ?_
  refine wp_skip ?_
  refine then_n ?_
  refine wp_seq (rg_pred FF2 MM2 [.inl (iN (m + d)), .inl (pT g), .inl (pT g), .inl (.pointer (some ⟨g, 3, none⟩)), .inl (iN m), .inl (iN d), .inl (pT g), .inl (pT g), .inl (.pointer (some ⟨g, 3, none⟩)), .inl (iN m), .inl (iN (m + d)), .inl (.int .i64 (-((d : Nat) : Int) : Int)), .inl (iN d)] [some (o_), some (o_), some (o_), some (o_), some (l_ 1 (iN m)), some (t_ (iN d)), some (o_), some (o_), some (o_), some (l_ 1 (iN m)), some (o_), some (u_ 4 (.int .i64 (-((d : Nat) : Int) : Int))), some (f_ (iN d))] [33, 4, 0, 1] (fun lx wq => [(iN (m + d) = iN (m + d)), (pT g = pT g), (pT g = pT g), (Value.pointer (some ⟨g, 3, none⟩) = .pointer (some ⟨g, 3, none⟩)), (g = g ∧ (#[iN a, iN b, iN r, iN m] : Array Value)[3]? = some (iN m) ∧ iN m = iN m), (m ≤ (m + d) ∧ (m + d) - m < 9223372036854775808 ∧ iN ((m + d) - m) = iN d ∧ iN d = iN d), (pT g = pT g), (pT g = pT g), (Value.pointer (some ⟨g, 3, none⟩) = .pointer (some ⟨g, 3, none⟩)), (g = g ∧ (#[iN a, iN b, iN r, iN m] : Array Value)[3]? = some (iN m) ∧ iN m = iN m), (iN (m + d) = iN (m + d)), (-(9223372036854775808 : Int) ≤ ((m : Nat) : Int) - ((m + d : Nat) : Int) ∧ ((m : Nat) : Int) - ((m + d : Nat) : Int) < (9223372036854775808 : Nat) ∧ Value.int .i64 (((m : Nat) : Int) - ((m + d : Nat) : Int) : Int) = .int .i64 (-((d : Nat) : Int) : Int) ∧ Value.int .i64 (-((d : Nat) : Int) : Int) = .int .i64 (-((d : Nat) : Int) : Int)), (RunV Tryd.prog [(26, iN d), (32, .int .i64 (-((d : Nat) : Int) : Int)), (19, .bool false), (4, pT br), (0, pT g), (1, iN (m + d))] ((br, oC #[.slice none 0 0] 37) :: (g, oC #[iN a, iN b, iN r, iN m] 73) :: ([] : Blks)) (opAt Tryd.f20 3 12) (iN d) ∧ iN d = iN d)]) (fun lx => [(33, iN d), (4, pT br), (0, pT g), (1, iN (m + d))]) (by kernel_rfl) (by kernel_rfl) (by kernel_rfl) trivial (fun _ _ => by kernel_rfl) (fun _ => by kernel_rfl) (fun lx wq hB9 hH9 => ⟨(rfl), (rfl), (rfl), (rfl), (⟨rfl, rfl, rfl⟩), (⟨(by omega), (by omega), (vI (by omega)), rfl⟩), (rfl), (rfl), (rfl), (⟨rfl, rfl, rfl⟩), (rfl), (⟨(by omega), (by omega), (vZ (by omega)), rfl⟩), (⟨(max_ok (t := 3) (u := 3) (x := .tmp 26) (y := .tmp 32) (by kernel_rfl) rfl rfl (by omega)), rfl⟩), trivial⟩) (fun lx ac3 wd3 hx4 hB5 FF3 MM3 => ?_))
  clear hx4
  refine rg_part 1 FF3 MM3 [o_] [4, 0, 1, 5] (fun Kt => Kt [(5, iN d), (4, pT br), (0, pT g), (1, iN (m + d))] ((br, oC #[.slice none 0 0] 37) :: (g, oC #[iN a, iN b, iN r, iN m] 73) :: ([] : Blks))) (by kernel_rfl) (fun _ => by kernel_rfl) (fun ac6 wd6 FF6 MM6 => ?_)
  refine wpl_nil (then_n ?_)
  have h0w := MM6.size
  refine wp_seq (rg_pred FF6 MM6 [.inl (pT g), .inl (pT g), .inl (.pointer (some ⟨g, 1, none⟩)), .inl (iN b), .inl (iN d), (.inr (fun v => .agg #[nv (b ^ d) v], fun v w => NatNew wd6.heap.size w (nv (b ^ d) v) (b ^ d)) : Spec), .inl (pT g), .inl (pT g), .inl (pT g), .inl (iN a), .inl (pT g), .inl (pT g), .inl (.pointer (some ⟨g, 2, none⟩)), .inl (iN r), .inl (iN d), .inl (iN (r - d)), (.inr (fun v => .agg #[nv (a ^ (r - d)) v], fun v w => NatNew wd6.heap.size w (nv (a ^ (r - d)) v) (a ^ (r - d))) : Spec), (.inr (fun v => .slice (pOf v) 2 2, fun v w => RowNs w (pOf v) [b ^ d, a ^ (r - d)]) : Spec), (.inr (fun v => .agg #[nv ((b ^ d) * (a ^ (r - d))) v], fun v w => NatNew wd6.heap.size w (nv ((b ^ d) * (a ^ (r - d))) v) ((b ^ d) * (a ^ (r - d)))) : Spec)] [some (o_), some (o_), some (o_), some (l_ 1 (iN b)), some (o_), none, some (o_), some (o_), some (o_), some (l_ 1 (iN a)), some (o_), some (o_), some (o_), some (l_ 1 (iN r)), some (o_), some (o_), none, some (o_), none] [52, 4, 0, 1] (fun lx wq => [(pT g = pT g), (pT g = pT g), (Value.pointer (some ⟨g, 1, none⟩) = .pointer (some ⟨g, 1, none⟩)), (g = g ∧ (#[iN a, iN b, iN r, iN m] : Array Value)[1]? = some (iN b) ∧ iN b = iN b), (iN d = iN d), (CallQ Tryd.prog 43 [iN b, iN d] wq (.inr (fun v => .agg #[nv (b ^ d) v], fun v w => NatNew wd6.heap.size w (nv (b ^ d) v) (b ^ d)) : Spec)), (pT g = pT g), (pT g = pT g), (pT g = pT g), (g = g ∧ (#[iN a, iN b, iN r, iN m] : Array Value)[0]? = some (iN a) ∧ iN a = iN a), (pT g = pT g), (pT g = pT g), (Value.pointer (some ⟨g, 2, none⟩) = .pointer (some ⟨g, 2, none⟩)), (g = g ∧ (#[iN a, iN b, iN r, iN m] : Array Value)[2]? = some (iN r) ∧ iN r = iN r), (iN d = iN d), (d ≤ r ∧ r - d < 9223372036854775808 ∧ iN (r - d) = iN (r - d)), (NatNew wd6.heap.size wq (nv (b ^ d) (lx 5)) (b ^ d) → CallQ Tryd.prog 43 [iN a, iN (r - d)] wq (.inr (fun v => .agg #[nv (a ^ (r - d)) v], fun v w => NatNew wd6.heap.size w (nv (a ^ (r - d)) v) (a ^ (r - d))) : Spec)), (NatNew wd6.heap.size wq (nv (b ^ d) (lx 5)) (b ^ d) → NatNew wd6.heap.size wq (nv (a ^ (r - d)) (lx 16)) (a ^ (r - d)) → (∀ w', Below wq.heap.size wq w' → w'.heap[wq.heap.size]? = some (oC #[nv (b ^ d) (lx 5), nv (a ^ (r - d)) (lx 16)] 37) → ∃ y, Value.slice (some ⟨wq.heap.size, 0, none⟩) 2 2 = (fun v => .slice (pOf v) 2 2) y ∧ RowNs w' (pOf y) [b ^ d, a ^ (r - d)])), (RowNs wq (pOf (lx 17)) [b ^ d, a ^ (r - d)] → NatNew wd6.heap.size wq (nv (a ^ (r - d)) (lx 16)) (a ^ (r - d)) → CallQ Tryd.prog 34 [.slice (pOf (lx 17)) 2 2] wq (.inr (fun v => .agg #[nv ((b ^ d) * (a ^ (r - d))) v], fun v w => NatNew wd6.heap.size w (nv ((b ^ d) * (a ^ (r - d))) v) ((b ^ d) * (a ^ (r - d)))) : Spec))]) (fun lx => [(52, aG #[nv ((b ^ d) * (a ^ (r - d))) (lx 18)]), (4, pT br), (0, pT g), (1, iN (m + d))]) (by kernel_rfl) (by kernel_rfl) (by kernel_rfl) ⟨(fun v w w1 => natNew_st _ _ (nv _ v) w w1), (fun v w w1 => natNew_st _ _ (nv _ v) w w1), (rowNs_st [b ^ d, a ^ (r - d)]), (fun v w w1 => natNew_st _ _ (nv _ v) w w1), trivial⟩ (fun _ _ => by kernel_rfl) (fun _ => by kernel_rfl) (fun lx wq hB9 hH9 => ⟨(rfl), (rfl), (rfl), (⟨rfl, rfl, rfl⟩), (rfl), (⟨en_kpower, (kpower_any b d (by omega) (by omega) wq).mono fun _ _ ⟨v, h1, h2, h3⟩ => ⟨v, h1, h2, h3.mono hB9.size⟩⟩), (rfl), (rfl), (rfl), (⟨rfl, rfl, rfl⟩), (rfl), (rfl), (rfl), (⟨rfl, rfl, rfl⟩), (rfl), (⟨(by omega), (by omega), rfl⟩), (fun h5_0 => ⟨en_kpower, (kpower_any a (r - d) (by omega) (by omega) wq).mono fun _ _ ⟨v, h1, h2, h3⟩ => ⟨v, h1, h2, h3.mono hB9.size⟩⟩), (fun h5_0 h16_1 => fun w' hb hh => ⟨.slice (some ⟨wq.heap.size, 0, none⟩) 2 2, rfl, _, nats2 hh (h5_0.1.keep hb) (h16_1.1.keep hb)⟩), (fun h17_0 h16_1 => ⟨en_nmul, (nmul2r (b ^ d) (a ^ (r - d)) (b100 (pow_lt16 (by omega) (by omega)) : b ^ d < 18446744073709551616 ^ 100) (b100 (pow_lt16 (by omega) (by omega)) : a ^ (r - d) < 18446744073709551616 ^ 100) wq h17_0).mono fun _ _ ⟨v, h1, h2, h3⟩ => ⟨v, h1, h2, h3.mono hB9.size⟩⟩), trivial⟩) (fun lx ac7 wd7 hx8 hB9 FF7 MM7 => ?_))
  obtain ⟨hl5, hl16, hl17, hl18, -⟩ := hx8
  generalize lx 5 = lv10 at *
  generalize lx 16 = lv11 at *
  generalize lx 17 = lv12 at *
  generalize lx 18 = lv13 at *
  have hfrw : ∀ g, (nv (b ^ d * a ^ (r - d)) lv13).ownBlock = some g → w0.heap.size ≤ g := fun g hg => Nat.le_trans h0w (hl18.2 g hg)
  obtain ⟨O14, MM150, hN16, hs17⟩ := MemS.addNatsT (K := [(br, oC #[.slice none 0 0] 37), (g, oC #[iN a, iN b, iN r, iN m] 73)]) (O := ([] : Blks)) MM6 MM7 rfl hl18 (Nats.nil ([] : Blks))
  have MM15 : MemS (fun k => k < w0.heap.size ∧ ∀ x ∈ (g, oC #[iN a, iN b, iN r, iN m] 73) :: ([] : Blks), x.1 ≠ k) w0 wd7 ((br, oC #[.slice none 0 0] 37) :: (g, oC #[iN a, iN b, iN r, iN m] 73) :: O14) [] := MM150
  refine rg_part 1 FF7 MM15 [b_ 0] [4, 0, 1] (fun Kt => br = br ∧ (#[.slice none 0 0] : Array Value).size = 1 ∧ (#[nv ((b ^ d) * (a ^ (r - d))) lv13] : Array Value).size = 1 ∧ (#[nv ((b ^ d) * (a ^ (r - d))) lv13] : Array Value).all (·.oneCell') = true ∧ (0, 0).2 = 0 ∧ Kt [(4, pT br), (0, pT g), (1, iN (m + d))] ((br, oC #[nv ((b ^ d) * (a ^ (r - d))) lv13] 37) :: (g, oC #[iN a, iN b, iN r, iN m] 73) :: O14)) (by kernel_rfl) (fun _ => by kernel_rfl) (⟨rfl, rfl, rfl, (by kernel_rfl), rfl, fun ac18 wd18 FF18 MM18 => ?_⟩)
  refine wpl_nil (then_n ?_)
  refine wp_ret ?_
  repeat first | refine then_ret ?_ | refine inb_ret ?_
  exact (retc FF18 MM18 (k := 1) (i := 0) (j := 0) Tryd.results20 rfl rfl Tryd.underlying37 rfl (by kernel_rfl) rfl ⟨lv13, rfl, MM18.turn (O := []) (fun i x hx => by simp at hx) 1 rfl (fun x hx => (nomatch hx)), ⟨(hN16.get 0 rfl).at (Has.tl (Has.tl MM18.hasL)), hfrw⟩⟩)
set_option maxRecDepth 100000 in
theorem kweight_dn (g : Nat) (a b r m : Nat) (hk : TOk a b r m) (d : Nat) (hd : d ≤ r) (w0 : World) (hg : w0.heap[g]? = some (KB a b r m)) :
    Calls Tryd.prog 20 #[pT g, iN (m - d)] w0 fun e w' => ∃ v, e = .returned (.agg #[nv (b ^ d * a ^ (r - d)) v]) ∧ Turn g (KB a b r m) w0 w' ∧ NatNew w0.heap.size w' (nv (b ^ d * a ^ (r - d)) v) (b ^ d * a ^ (r - d)) := by
  have ⟨k1, k2, k3, k4, k5⟩ := hk
  refine enter_fr Tryd.func20 rfl Tryd.ntmps20 (by simp) fun ac (FF : Fr 53 ac [(0, pT g), (1, iN (m - d))]) => ?_
  have MM : MemS (fun k => k < w0.heap.size ∧ ∀ x ∈ (g, oC #[iN a, iN b, iN r, iN m] 73) :: ([] : Blks), x.1 ≠ k) w0 w0 ((g, oC #[iN a, iN b, iN r, iN m] 73) :: ([] : Blks)) [] := MemS.startN (one_has hg) ⟨fun y hy => (nomatch hy), trivial⟩
  refine wp_seq (rg_seq FF MM [o_] [0, 1, 4] (fun Kt => ∀ br, Kt [(4, pT br), (0, pT g), (1, iN (m - d))] ((br, oC #[.slice none 0 0] 37) :: (g, oC #[iN a, iN b, iN r, iN m] 73) :: ([] : Blks))) (by kernel_rfl) (fun _ => by kernel_rfl) (fun br => fun ac1 wd1 FF1 MM1 => then_n ?_))
  refine wp_seq ?_
  refine wp_seq (rg_seq FF1 MM1 [o_, f_ (.bool false), o_, o_, o_, u_ 1 (iN (m - r)), w_ 3, o_, o_, o_, o_, u_ 1 (iN (m + r)), w_ 3, o_] [4, 0, 1, 19] (fun Kt => RunV Tryd.prog [(6, pT g), (4, pT br), (0, pT g), (1, iN (m - d))] ((br, oC #[.slice none 0 0] 37) :: (g, oC #[iN a, iN b, iN r, iN m] 73) :: ([] : Blks)) (opAt Tryd.f20 1 1) (.bool false) ∧ CallP Tryd.prog 11 [pT g] ((br, oC #[.slice none 0 0] 37) :: (g, oC #[iN a, iN b, iN r, iN m] 73) :: ([] : Blks)) (iN (m - r)) ∧ ¬ ((m - d) < (m - r)) ∧ CallP Tryd.prog 13 [pT g] ((br, oC #[.slice none 0 0] 37) :: (g, oC #[iN a, iN b, iN r, iN m] 73) :: ([] : Blks)) (iN (m + r)) ∧ ¬ ((m - d) > (m + r)) ∧ Kt [(19, .bool false), (4, pT br), (0, pT g), (1, iN (m - d))] ((br, oC #[.slice none 0 0] 37) :: (g, oC #[iN a, iN b, iN r, iN m] 73) :: ([] : Blks))) (by kernel_rfl) (fun _ => by kernel_rfl) (⟨(ptrSome_ok (t := 28) (t' := 28) (x := (.tmp 6)) (y := (.const (.pointer none))) (by kernel_rfl) rfl rfl Tryd.underlying28), ⟨en_kleast, fun w Hw => kleast_any g a b r m hk w (Hw 1 _ rfl)⟩, (by omega), ⟨en_kmost, fun w Hw => kmost_any g a b r m hk w (Hw 1 _ rfl)⟩, (by omega), fun ac2 wd2 FF2 MM2 => then_n ?_⟩))
  refine wp_cond_false (FF2.ev 0 rfl) ?_
  refine wp_skip ?_
  refine then_n ?_
  refine wp_seq (rg_pred FF2 MM2 [.inl (iN (m - d)), .inl (pT g), .inl (pT g), .inl (.pointer (some ⟨g, 3, none⟩)), .inl (iN m), .inl (.int .i64 (-((d : Nat) : Int) : Int)), .inl (pT g), .inl (pT g), .inl (.pointer (some ⟨g, 3, none⟩)), .inl (iN m), .inl (iN (m - d)), .inl (iN d), .inl (iN d)] [some (o_), some (o_), some (o_), some (o_), some (l_ 1 (iN m)), some (u_ 4 (.int .i64 (-((d : Nat) : Int) : Int))), some (o_), some (o_), some (o_), some (l_ 1 (iN m)), some (o_), some (t_ (iN d)), some (f_ (iN d))] [33, 4, 0, 1] (fun lx wq => [(iN (m - d) = iN (m - d)), (pT g = pT g), (pT g = pT g), (Value.pointer (some ⟨g, 3, none⟩) = .pointer (some ⟨g, 3, none⟩)), (g = g ∧ (#[iN a, iN b, iN r, iN m] : Array Value)[3]? = some (iN m) ∧ iN m = iN m), (-(9223372036854775808 : Int) ≤ ((m - d : Nat) : Int) - ((m : Nat) : Int) ∧ ((m - d : Nat) : Int) - ((m : Nat) : Int) < (9223372036854775808 : Nat) ∧ Value.int .i64 (((m - d : Nat) : Int) - ((m : Nat) : Int) : Int) = .int .i64 (-((d : Nat) : Int) : Int) ∧ Value.int .i64 (-((d : Nat) : Int) : Int) = .int .i64 (-((d : Nat) : Int) : Int)), (pT g = pT g), (pT g = pT g), (Value.pointer (some ⟨g, 3, none⟩) = .pointer (some ⟨g, 3, none⟩)), (g = g ∧ (#[iN a, iN b, iN r, iN m] : Array Value)[3]? = some (iN m) ∧ iN m = iN m), (iN (m - d) = iN (m - d)), ((m - d) ≤ m ∧ m - (m - d) < 9223372036854775808 ∧ iN (m - (m - d)) = iN d ∧ iN d = iN d), (RunV Tryd.prog [(26, .int .i64 (-((d : Nat) : Int) : Int)), (32, iN d), (19, .bool false), (4, pT br), (0, pT g), (1, iN (m - d))] ((br, oC #[.slice none 0 0] 37) :: (g, oC #[iN a, iN b, iN r, iN m] 73) :: ([] : Blks)) (opAt Tryd.f20 3 12) (iN d) ∧ iN d = iN d)]) (fun lx => [(33, iN d), (4, pT br), (0, pT g), (1, iN (m - d))]) (by kernel_rfl) (by kernel_rfl) (by kernel_rfl) trivial (fun _ _ => by kernel_rfl) (fun _ => by kernel_rfl) (fun lx wq hB9 hH9 => ⟨(rfl), (rfl), (rfl), (rfl), (⟨rfl, rfl, rfl⟩), (⟨(by omega), (by omega), (vZ (by omega)), rfl⟩), (rfl), (rfl), (rfl), (⟨rfl, rfl, rfl⟩), (rfl), (⟨(by omega), (by omega), (vI (by omega)), rfl⟩), (⟨(max_ok (t := 3) (u := 3) (x := .tmp 26) (y := .tmp 32) (by kernel_rfl) rfl rfl (by omega)), rfl⟩), trivial⟩) (fun lx ac3 wd3 hx4 hB5 FF3 MM3 => ?_))
  clear hx4
  refine rg_part 1 FF3 MM3 [o_] [4, 0, 1, 5] (fun Kt => Kt [(5, iN d), (4, pT br), (0, pT g), (1, iN (m - d))] ((br, oC #[.slice none 0 0] 37) :: (g, oC #[iN a, iN b, iN r, iN m] 73) :: ([] : Blks))) (by kernel_rfl) (fun _ => by kernel_rfl) (fun ac6 wd6 FF6 MM6 => ?_)
  refine wpl_nil (then_n ?_)
  have h0w := MM6.size
  refine wp_seq (rg_pred FF6 MM6 [.inl (pT g), .inl (pT g), .inl (.pointer (some ⟨g, 1, none⟩)), .inl (iN b), .inl (iN d), (.inr (fun v => .agg #[nv (b ^ d) v], fun v w => NatNew wd6.heap.size w (nv (b ^ d) v) (b ^ d)) : Spec), .inl (pT g), .inl (pT g), .inl (pT g), .inl (iN a), .inl (pT g), .inl (pT g), .inl (.pointer (some ⟨g, 2, none⟩)), .inl (iN r), .inl (iN d), .inl (iN (r - d)), (.inr (fun v => .agg #[nv (a ^ (r - d)) v], fun v w => NatNew wd6.heap.size w (nv (a ^ (r - d)) v) (a ^ (r - d))) : Spec), (.inr (fun v => .slice (pOf v) 2 2, fun v w => RowNs w (pOf v) [b ^ d, a ^ (r - d)]) : Spec), (.inr (fun v => .agg #[nv ((b ^ d) * (a ^ (r - d))) v], fun v w => NatNew wd6.heap.size w (nv ((b ^ d) * (a ^ (r - d))) v) ((b ^ d) * (a ^ (r - d)))) : Spec)] [some (o_), some (o_), some (o_), some (l_ 1 (iN b)), some (o_), none, some (o_), some (o_), some (o_), some (l_ 1 (iN a)), some (o_), some (o_), some (o_), some (l_ 1 (iN r)), some (o_), some (o_), none, some (o_), none] [52, 4, 0, 1] (fun lx wq => [(pT g = pT g), (pT g = pT g), (Value.pointer (some ⟨g, 1, none⟩) = .pointer (some ⟨g, 1, none⟩)), (g = g ∧ (#[iN a, iN b, iN r, iN m] : Array Value)[1]? = some (iN b) ∧ iN b = iN b), (iN d = iN d), (CallQ Tryd.prog 43 [iN b, iN d] wq (.inr (fun v => .agg #[nv (b ^ d) v], fun v w => NatNew wd6.heap.size w (nv (b ^ d) v) (b ^ d)) : Spec)), (pT g = pT g), (pT g = pT g), (pT g = pT g), (g = g ∧ (#[iN a, iN b, iN r, iN m] : Array Value)[0]? = some (iN a) ∧ iN a = iN a), (pT g = pT g), (pT g = pT g), (Value.pointer (some ⟨g, 2, none⟩) = .pointer (some ⟨g, 2, none⟩)), (g = g ∧ (#[iN a, iN b, iN r, iN m] : Array Value)[2]? = some (iN r) ∧ iN r = iN r), (iN d = iN d), (d ≤ r ∧ r - d < 9223372036854775808 ∧ iN (r - d) = iN (r - d)), (NatNew wd6.heap.size wq (nv (b ^ d) (lx 5)) (b ^ d) → CallQ Tryd.prog 43 [iN a, iN (r - d)] wq (.inr (fun v => .agg #[nv (a ^ (r - d)) v], fun v w => NatNew wd6.heap.size w (nv (a ^ (r - d)) v) (a ^ (r - d))) : Spec)), (NatNew wd6.heap.size wq (nv (b ^ d) (lx 5)) (b ^ d) → NatNew wd6.heap.size wq (nv (a ^ (r - d)) (lx 16)) (a ^ (r - d)) → (∀ w', Below wq.heap.size wq w' → w'.heap[wq.heap.size]? = some (oC #[nv (b ^ d) (lx 5), nv (a ^ (r - d)) (lx 16)] 37) → ∃ y, Value.slice (some ⟨wq.heap.size, 0, none⟩) 2 2 = (fun v => .slice (pOf v) 2 2) y ∧ RowNs w' (pOf y) [b ^ d, a ^ (r - d)])), (RowNs wq (pOf (lx 17)) [b ^ d, a ^ (r - d)] → NatNew wd6.heap.size wq (nv (a ^ (r - d)) (lx 16)) (a ^ (r - d)) → CallQ Tryd.prog 34 [.slice (pOf (lx 17)) 2 2] wq (.inr (fun v => .agg #[nv ((b ^ d) * (a ^ (r - d))) v], fun v w => NatNew wd6.heap.size w (nv ((b ^ d) * (a ^ (r - d))) v) ((b ^ d) * (a ^ (r - d)))) : Spec))]) (fun lx => [(52, aG #[nv ((b ^ d) * (a ^ (r - d))) (lx 18)]), (4, pT br), (0, pT g), (1, iN (m - d))]) (by kernel_rfl) (by kernel_rfl) (by kernel_rfl) ⟨(fun v w w1 => natNew_st _ _ (nv _ v) w w1), (fun v w w1 => natNew_st _ _ (nv _ v) w w1), (rowNs_st [b ^ d, a ^ (r - d)]), (fun v w w1 => natNew_st _ _ (nv _ v) w w1), trivial⟩ (fun _ _ => by kernel_rfl) (fun _ => by kernel_rfl) (fun lx wq hB9 hH9 => ⟨(rfl), (rfl), (rfl), (⟨rfl, rfl, rfl⟩), (rfl), (⟨en_kpower, (kpower_any b d (by omega) (by omega) wq).mono fun _ _ ⟨v, h1, h2, h3⟩ => ⟨v, h1, h2, h3.mono hB9.size⟩⟩), (rfl), (rfl), (rfl), (⟨rfl, rfl, rfl⟩), (rfl), (rfl), (rfl), (⟨rfl, rfl, rfl⟩), (rfl), (⟨(by omega), (by omega), rfl⟩), (fun h5_0 => ⟨en_kpower, (kpower_any a (r - d) (by omega) (by omega) wq).mono fun _ _ ⟨v, h1, h2, h3⟩ => ⟨v, h1, h2, h3.mono hB9.size⟩⟩), (fun h5_0 h16_1 => fun w' hb hh => ⟨.slice (some ⟨wq.heap.size, 0, none⟩) 2 2, rfl, _, nats2 hh (h5_0.1.keep hb) (h16_1.1.keep hb)⟩), (fun h17_0 h16_1 => ⟨en_nmul, (nmul2r (b ^ d) (a ^ (r - d)) (b100 (pow_lt16 (by omega) (by omega)) : b ^ d < 18446744073709551616 ^ 100) (b100 (pow_lt16 (by omega) (by omega)) : a ^ (r - d) < 18446744073709551616 ^ 100) wq h17_0).mono fun _ _ ⟨v, h1, h2, h3⟩ => ⟨v, h1, h2, h3.mono hB9.size⟩⟩), trivial⟩) (fun lx ac7 wd7 hx8 hB9 FF7 MM7 => ?_))
  obtain ⟨hl5, hl16, hl17, hl18, -⟩ := hx8
  generalize lx 5 = lv10 at *
  generalize lx 16 = lv11 at *
  generalize lx 17 = lv12 at *
  generalize lx 18 = lv13 at *
  have hfrw : ∀ g, (nv (b ^ d * a ^ (r - d)) lv13).ownBlock = some g → w0.heap.size ≤ g := fun g hg => Nat.le_trans h0w (hl18.2 g hg)
  obtain ⟨O14, MM150, hN16, hs17⟩ := MemS.addNatsT (K := [(br, oC #[.slice none 0 0] 37), (g, oC #[iN a, iN b, iN r, iN m] 73)]) (O := ([] : Blks)) MM6 MM7 rfl hl18 (Nats.nil ([] : Blks))
  have MM15 : MemS (fun k => k < w0.heap.size ∧ ∀ x ∈ (g, oC #[iN a, iN b, iN r, iN m] 73) :: ([] : Blks), x.1 ≠ k) w0 wd7 ((br, oC #[.slice none 0 0] 37) :: (g, oC #[iN a, iN b, iN r, iN m] 73) :: O14) [] := MM150
  refine rg_part 1 FF7 MM15 [b_ 0] [4, 0, 1] (fun Kt => br = br ∧ (#[.slice none 0 0] : Array Value).size = 1 ∧ (#[nv ((b ^ d) * (a ^ (r - d))) lv13] : Array Value).size = 1 ∧ (#[nv ((b ^ d) * (a ^ (r - d))) lv13] : Array Value).all (·.oneCell') = true ∧ (0, 0).2 = 0 ∧ Kt [(4, pT br), (0, pT g), (1, iN (m - d))] ((br, oC #[nv ((b ^ d) * (a ^ (r - d))) lv13] 37) :: (g, oC #[iN a, iN b, iN r, iN m] 73) :: O14)) (by kernel_rfl) (fun _ => by kernel_rfl) (⟨rfl, rfl, rfl, (by kernel_rfl), rfl, fun ac18 wd18 FF18 MM18 => ?_⟩)
  refine wpl_nil (then_n ?_)
  refine wp_ret ?_
  repeat first | refine then_ret ?_ | refine inb_ret ?_
  exact (retc FF18 MM18 (k := 1) (i := 0) (j := 0) Tryd.results20 rfl rfl Tryd.underlying37 rfl (by kernel_rfl) rfl ⟨lv13, rfl, MM18.turn (O := []) (fun i x hx => by simp at hx) 1 rfl (fun x hx => (nomatch hx)), ⟨(hN16.get 0 rfl).at (Has.tl (Has.tl MM18.hasL)), hfrw⟩⟩)
end Go.Proofs.YtlljedijldkcbaaDoor
namespace Go.Proofs.YtlljedijldkcbaaDoor
open Go.RowKit
theorem kweight_any (g : Nat) (a b r m : Nat) (hk : TOk a b r m) (n : Int) (h1 : -9223372036854775808 ≤ n) (h2 : n < 9223372036854775808) (w0 : World) (hg : w0.heap[g]? = some (KB a b r m)) :
    Calls Tryd.prog 20 #[pT g, .int .i64 n] w0 fun e w' => ∃ v, e = .returned (.agg #[nv (wgZ a b r m n) v]) ∧ Below w0.heap.size w0 w' ∧ NatNew w0.heap.size w' (nv (wgZ a b r m n) v) (wgZ a b r m n) := by
  have k4 := hk.2.2.2.1
  rcases Int.lt_or_le n ((m : Int) - r) with h | h
  · rw [wg_lo h]; exact (kweight_lo g a b r m hk n h h1 w0 hg).mono fun _ _ ⟨v, e, t, q⟩ => ⟨v, e, turn_below hg t, q⟩
  · rcases Int.lt_or_le ((m : Int) + r) n with h' | h'
    · rw [wg_hi h']; exact (kweight_hi g a b r m hk n h' h2 w0 hg).mono fun _ _ ⟨v, e, t, q⟩ => ⟨v, e, turn_below hg t, q⟩
    · rcases Int.lt_or_le n m with h3 | h3
      · obtain ⟨d, rfl, hd⟩ : ∃ d : Nat, n = ((m - d : Nat) : Int) ∧ d ≤ r := ⟨(m - n).toNat, by omega, by omega⟩
        rw [wg_in h h', show (((m - d : Nat) : Int) - m).natAbs = d by omega]
        exact (kweight_dn g a b r m hk d hd w0 hg).mono fun _ _ ⟨v, e, t, q⟩ => ⟨v, e, turn_below hg t, q⟩
      · obtain ⟨d, rfl, hd⟩ : ∃ d : Nat, n = ((m + d : Nat) : Int) ∧ d ≤ r := ⟨(n - m).toNat, by omega, by omega⟩
        rw [wg_in h h', show (((m + d : Nat) : Int) - m).natAbs = d by omega]
        exact (kweight_up g a b r m hk d hd w0 hg).mono fun _ _ ⟨v, e, t, q⟩ => ⟨v, e, turn_below hg t, q⟩
set_option maxRecDepth 100000 in
theorem kedge_O (O : Blks) (hD : Distinct O) (g : Nat) (a b r m : Nat) (hk : TOk a b r m) (hK : KO O g a b r m) (w0 : World) (H : Has w0 O) :
    Calls Tryd.prog 18 #[pT g] w0 fun e w' => ∃ v, e = .returned (.agg #[nv (wgZ a b r m ((m - r : Nat) : Int)) v]) ∧ Below w0.heap.size w0 w' ∧ NatNew w0.heap.size w' (nv (wgZ a b r m ((m - r : Nat) : Int)) v) (wgZ a b r m ((m - r : Nat) : Int)) := by
  refine enter_fr Tryd.func18 rfl Tryd.ntmps18 (by simp) fun ac (FF : Fr 7 ac [(0, pT g)]) => ?_
  have MM : MemS (fun k => k < w0.heap.size ∧ ∀ x ∈ O, x.1 ≠ k) w0 w0 O [] := MemS.startN H hD
  have ⟨k1, k2, k3, k4, k5⟩ := hk
  refine wp_seq (rg_seq FF MM [o_] [0, 2] (fun Kt => ∀ br, Kt [(2, pT br), (0, pT g)] ((br, oC #[.slice none 0 0] 37) :: O)) (by kernel_rfl) (fun _ => by kernel_rfl) (fun br => fun ac1 wd1 FF1 MM1 => then_n ?_))
  refine wp_seq (wp_region_list ?_)
  refine rg_part 3 FF1 MM1 [o_, o_, u_ 1 (iN (m - r))] [2, 3, 5] (fun Kt => CallP Tryd.prog 11 [pT g] ((br, oC #[.slice none 0 0] 37) :: O) (iN (m - r)) ∧ Kt [(5, iN (m - r)), (3, pT g), (2, pT br)] ((br, oC #[.slice none 0 0] 37) :: O)) (by kernel_rfl) (fun _ => by kernel_rfl) (⟨⟨en_kleast, fun w Hw => kleast_any g a b r m hk w (hK.at (Has.tl Hw))⟩, fun ac2 wd2 FF2 MM2 => ?_⟩)
  refine st_callE [2, 6] FF2 (d := 6) (mk := fun v => .agg #[nv (wgZ a b r m ((m - r : Nat) : Int)) v]) en_kweight rfl rfl (kweight_any g a b r m hk ((m - r : Nat) : Int) (by omega) (by omega) _ (hK.at (Has.tl MM2.hasL))) rfl (by kernel_rfl) (by decide) fun ac4 wd4 lv3 (FF4 : Fr 7 ac4 [(6, aG #[nv (wgZ a b r m ((m - r : Nat) : Int)) lv3]), (2, pT br)]) hr5 => ?_
  have hfr6 : ∀ g, (nv (wgZ a b r m ((m - r : Nat) : Int)) lv3).ownBlock = some g → w0.heap.size ≤ g := fun g hg => Nat.le_trans MM2.size (hr5.2.2 g hg)
  obtain ⟨O7, MM80, hN9, hs10⟩ := MemS.addNats (K := [(br, oC #[.slice none 0 0] 37)]) (O := O) MM2 hr5.1 hr5.2 (Nats.nil O)
  have MM8 : MemS (fun k => k < w0.heap.size ∧ ∀ x ∈ O, x.1 ≠ k) w0 wd4 ((br, oC #[.slice none 0 0] 37) :: O7) [] := MM80
  have hK_11 := hK.mono hs10
  refine rg_part 1 FF4 MM8 [b_ 0] [2] (fun Kt => br = br ∧ (#[.slice none 0 0] : Array Value).size = 1 ∧ (#[nv (wgZ a b r m ((m - r : Nat) : Int)) lv3] : Array Value).size = 1 ∧ (#[nv (wgZ a b r m ((m - r : Nat) : Int)) lv3] : Array Value).all (·.oneCell') = true ∧ (0, 0).2 = 0 ∧ Kt [(2, pT br)] ((br, oC #[nv (wgZ a b r m ((m - r : Nat) : Int)) lv3] 37) :: O7)) (by kernel_rfl) (fun _ => by kernel_rfl) (⟨rfl, rfl, rfl, (by kernel_rfl), rfl, fun ac12 wd12 FF12 MM12 => ?_⟩)
  refine wpl_nil (then_n ?_)
  refine wp_ret ?_
  repeat first | refine then_ret ?_ | refine inb_ret ?_
  exact (retc FF12 MM12 (k := 1) (i := 0) (j := 0) Tryd.results18 rfl rfl Tryd.underlying37 rfl (by kernel_rfl) rfl ⟨lv3, rfl, MM12.belowN H (fun _ hx => List.mem_cons_of_mem _ (hs10 _ hx)), ⟨(hN9.get 0 rfl).at (Has.tl MM12.hasL), hfr6⟩⟩)
theorem kone_O {w : World} {g a b r m : Nat} (hg : w.heap[g]? = some (KB a b r m)) : ∃ O : Blks, Has w O ∧ Distinct O ∧ KO O g a b r m := ⟨[(g, KB a b r m)], one_has hg, ⟨fun y hy => (nomatch hy), trivial⟩, by simp [KO]⟩
theorem kedge_any (g : Nat) (a b r m : Nat) (hk : TOk a b r m) (w0 : World) (hg : w0.heap[g]? = some (KB a b r m)) : Calls Tryd.prog 18 #[pT g] w0 fun e w' => ∃ v, e = .returned (.agg #[nv (wgZ a b r m ((m - r : Nat) : Int)) v]) ∧ Below w0.heap.size w0 w' ∧ NatNew w0.heap.size w' (nv (wgZ a b r m ((m - r : Nat) : Int)) v) (wgZ a b r m ((m - r : Nat) : Int)) := by
  obtain ⟨O, h1, h2, h3⟩ := kone_O hg
  exact kedge_O O h2 g a b r m hk h3 w0 h1
set_option maxRecDepth 100000 in
theorem ktotal_O (O : Blks) (hD : Distinct O) (g : Nat) (a b r m : Nat) (hk : TOk a b r m) (hK : KO O g a b r m) (w0 : World) (H : Has w0 O) :
    Calls Tryd.prog 16 #[pT g] w0 fun e w' => ∃ v, e = .returned (.agg #[nv (toN a b r m (2 * r + 1)) v]) ∧ Below w0.heap.size w0 w' ∧ NatNew w0.heap.size w' (nv (toN a b r m (2 * r + 1)) v) (toN a b r m (2 * r + 1)) := by
  refine enter_fr Tryd.func16 rfl Tryd.ntmps16 (by simp) fun ac (FF : Fr 21 ac [(0, pT g)]) => ?_
  have MM : MemS (fun k => k < w0.heap.size ∧ ∀ x ∈ O, x.1 ≠ k) w0 w0 O [] := MemS.startN H hD
  have ⟨k1, k2, k3, k4, k5⟩ := hk
  refine wp_seq (rg_seq FF MM [o_] [0, 2] (fun Kt => ∀ br, Kt [(2, pT br), (0, pT g)] ((br, oC #[.slice none 0 0] 37) :: O)) (by kernel_rfl) (fun _ => by kernel_rfl) (fun br => fun ac1 wd1 FF1 MM1 => then_n ?_))
  refine wp_seq (rg_seq FF1 MM1 [o_] [2, 0, 3] (fun Kt => ∀ bs, Kt [(3, pT bs), (2, pT br), (0, pT g)] ((bs, oC #[.slice none 0 0] 37) :: (br, oC #[.slice none 0 0] 37) :: O)) (by kernel_rfl) (fun _ => by kernel_rfl) (fun bs => fun ac2 wd2 FF2 MM2 => then_n ?_))
  refine wp_seq ?_
  refine wp_seq (rg_seq FF2 MM2 [o_, u_ 1 (iN (2 * r + 1)), o_] [3, 2, 0, 6, 7] (fun Kt => CallP Tryd.prog 38 [pT g] ((bs, oC #[.slice none 0 0] 37) :: (br, oC #[.slice none 0 0] 37) :: O) (iN (2 * r + 1)) ∧ Kt [(7, iN 0), (6, iN (2 * r + 1)), (3, pT bs), (2, pT br), (0, pT g)] ((bs, oC #[.slice none 0 0] 37) :: (br, oC #[.slice none 0 0] 37) :: O)) (by kernel_rfl) (fun _ => by kernel_rfl) (⟨⟨en_kcount, fun w Hw => kcount_any g a b r m hk w (hK.at (Has.tl (Has.tl Hw)))⟩, fun ac3 wd3 FF3 MM3 => then_n ?_⟩))
  refine wp_for (fun a' w' => ∃ O1 : Blks, ∃ i : Nat, ∃ v : Value, i ≤ 2 * r + 1 ∧ (∀ x ∈ O, x ∈ O1) ∧ Nats O1 [((nv (toN a b r m i) v), toN a b r m i)] ∧ (∀ g, (nv (toN a b r m i) v).ownBlock = some g → w0.heap.size ≤ g) ∧ Fr 21 a' [(7, iN i), (6, iN (2 * r + 1)), (3, pT bs), (2, pT br), (0, pT g)] ∧ MemS (fun k => k < w0.heap.size ∧ ∀ x ∈ O, x.1 ≠ k) w0 w' ((bs, oC #[nv (toN a b r m i) v] 37) :: (br, oC #[.slice none 0 0] 37) :: O1) []) (fun a' _ => (2 * r + 1 - cnt 7 a').toNat) ⟨O, 0, (.slice none 0 0), Nat.zero_le _, fun _ h => h, .cons (natO_nil O) (.nil _), (fun g hg => by cases hg), FF3.pick [0, 1, 2, 3, 4], MM3⟩ ?_
  rintro ac4 wd4 ⟨O1, i, v, hi, hsb, hN1, hfr, FF4, MM4⟩
  have hK1 := hK.mono hsb
  have hc := cnt_of (FF4.get 0 rfl)
  refine rg_seq FF4 MM4 [o_] [7, 6, 3, 2, 0, 8] (fun Kt => Kt [(8, .bool (decide (i < (2 * r + 1)))), (7, iN i), (6, iN (2 * r + 1)), (3, pT bs), (2, pT br), (0, pT g)] ((bs, oC #[nv (toN a b r m i) v] 37) :: (br, oC #[.slice none 0 0] 37) :: O1)) (by kernel_rfl) (fun _ => by kernel_rfl) (fun ac5 wd5 FF5 MM5 => ?_)
  by_cases hlt : i < (2 * r + 1)
  · skip
    refine then_n (.inl ⟨(FF5.ev 0 rfl).trans (dec_t hlt), ?_⟩)
    have hi9 : i ≤ 8 := by omega
    refine wp_seq (rg_seq FF5 MM5 [o_, o_] [7, 6, 3, 2, 0, 4] (fun Kt => Kt [(4, iN i), (7, iN i), (6, iN (2 * r + 1)), (3, pT bs), (2, pT br), (0, pT g)] ((bs, oC #[nv (toN a b r m i) v] 37) :: (br, oC #[.slice none 0 0] 37) :: O1)) (by kernel_rfl) (fun _ => by kernel_rfl) (fun ac6 wd6 FF6 MM6 => then_n ?_))
    have h0w := MM6.size
    refine rg_pred FF6 MM6 [.inl (aG #[nv (toN a b r m i) v]), .inl (pT g), .inl (pT g), .inl (iN (m - r)), .inl (iN i), .inl (iN ((m - r) + i)), (.inr (fun v => .agg #[nv (wgZ a b r m ((m - r + i : Nat) : Int)) v], fun v w => NatNew wd6.heap.size w (nv (wgZ a b r m ((m - r + i : Nat) : Int)) v) (wgZ a b r m ((m - r + i : Nat) : Int))) : Spec), (.inr (fun v => .slice (pOf v) 2 2, fun v w => RowNs w (pOf v) [toN a b r m i, wgZ a b r m ((m - r + i : Nat) : Int)]) : Spec), (.inr (fun v => .agg #[nv (toN a b r m (i + 1)) v], fun v w => NatNew wd6.heap.size w (nv (toN a b r m (i + 1)) v) (toN a b r m (i + 1))) : Spec)] [some (b_ 0), some (o_), some (o_), some (u_ 1 (iN (m - r))), some (o_), some (o_), none, some (o_), none] [18, 4, 7, 6, 3, 2, 0] (fun lx wq => [(bs = bs ∧ (#[nv (toN a b r m i) v] : Array Value).size = 1 ∧ aG #[nv (toN a b r m i) v] = aG #[nv (toN a b r m i) v]), (pT g = pT g), (pT g = pT g), (CallP Tryd.prog 11 [pT g] ((bs, oC #[nv (toN a b r m i) v] 37) :: (br, oC #[.slice none 0 0] 37) :: O1) (iN (m - r)) ∧ iN (m - r) = iN (m - r)), (iN i = iN i), ((m - r) + i < 9223372036854775808 ∧ iN ((m - r) + i) = iN ((m - r) + i)), (CallQ Tryd.prog 20 [pT g, iN ((m - r) + i)] wq (.inr (fun v => .agg #[nv (wgZ a b r m ((m - r + i : Nat) : Int)) v], fun v w => NatNew wd6.heap.size w (nv (wgZ a b r m ((m - r + i : Nat) : Int)) v) (wgZ a b r m ((m - r + i : Nat) : Int))) : Spec)), (NatNew wd6.heap.size wq (nv (wgZ a b r m ((m - r + i : Nat) : Int)) (lx 6)) (wgZ a b r m ((m - r + i : Nat) : Int)) → (∀ w', Below wq.heap.size wq w' → w'.heap[wq.heap.size]? = some (oC #[nv (toN a b r m i) v, nv (wgZ a b r m ((m - r + i : Nat) : Int)) (lx 6)] 37) → ∃ y, Value.slice (some ⟨wq.heap.size, 0, none⟩) 2 2 = (fun v => .slice (pOf v) 2 2) y ∧ RowNs w' (pOf y) [toN a b r m i, wgZ a b r m ((m - r + i : Nat) : Int)])), (RowNs wq (pOf (lx 7)) [toN a b r m i, wgZ a b r m ((m - r + i : Nat) : Int)] → NatNew wd6.heap.size wq (nv (wgZ a b r m ((m - r + i : Nat) : Int)) (lx 6)) (wgZ a b r m ((m - r + i : Nat) : Int)) → CallQ Tryd.prog 31 [.slice (pOf (lx 7)) 2 2] wq (.inr (fun v => .agg #[nv (toN a b r m (i + 1)) v], fun v w => NatNew wd6.heap.size w (nv (toN a b r m (i + 1)) v) (toN a b r m (i + 1))) : Spec))]) (fun lx => [(18, aG #[nv (toN a b r m (i + 1)) (lx 8)]), (4, iN i), (7, iN i), (6, iN (2 * r + 1)), (3, pT bs), (2, pT br), (0, pT g)]) (by kernel_rfl) (by kernel_rfl) (by kernel_rfl) ⟨(fun v w w1 => natNew_st _ _ (nv _ v) w w1), (rowNs_st [toN a b r m i, wgZ a b r m ((m - r + i : Nat) : Int)]), (fun v w w1 => natNew_st _ _ (nv _ v) w w1), trivial⟩ (fun _ _ => by kernel_rfl) (fun _ => by kernel_rfl) (fun lx wq hB9 hH9 => ⟨(⟨rfl, rfl, rfl⟩), (rfl), (rfl), (⟨⟨en_kleast, fun w Hw => kleast_any g a b r m hk w (hK1.at (Has.tl (Has.tl Hw)))⟩, rfl⟩), (rfl), (⟨(by omega), rfl⟩), (⟨en_kweight, (kweight_any g a b r m hk ((m - r + i : Nat) : Int) (by omega) (by omega) wq (hK1.at (Has.tl (Has.tl hH9)))).mono fun _ _ ⟨v, h1, h2, h3⟩ => ⟨v, h1, h2, h3.mono hB9.size⟩⟩), (fun h6_0 => fun w' hb hh => ⟨.slice (some ⟨wq.heap.size, 0, none⟩) 2 2, rfl, _, nats2 hh (((hN1.get 0 rfl).at (Has.tl (Has.tl hH9))).keep hb) (h6_0.1.keep hb)⟩), (fun h7_0 h6_1 => ⟨en_nadd, (nadd2r (toN a b r m i) (wgZ a b r m ((m - r + i : Nat) : Int)) (b100 (by have := to_le hk i; have := wg_le hk ((m - r + i : Nat) : Int); omega) : (toN a b r m i) + (wgZ a b r m ((m - r + i : Nat) : Int)) < 18446744073709551616 ^ 100) wq h7_0).mono fun _ _ ⟨v, h1, h2, h3⟩ => ⟨v, h1, h2, h3.mono hB9.size⟩⟩), trivial⟩) (fun lx ac7 wd7 hx8 hB9 FF7 MM7 => ?_)
    obtain ⟨hl6, hl7, hl8, -⟩ := hx8
    generalize lx 6 = lv10 at *
    generalize lx 7 = lv11 at *
    generalize lx 8 = lv12 at *
    have hfrw : ∀ g, (nv (toN a b r m (i + 1)) lv12).ownBlock = some g → w0.heap.size ≤ g := fun g hg => Nat.le_trans h0w (hl8.2 g hg)
    obtain ⟨O13, MM140, hN15, hs16⟩ := MemS.addNatsT (K := [(bs, oC #[nv (toN a b r m i) v] 37), (br, oC #[.slice none 0 0] 37)]) (O := O1) MM6 MM7 rfl hl8 hN1
    have MM14 : MemS (fun k => k < w0.heap.size ∧ ∀ x ∈ O, x.1 ≠ k) w0 wd7 ((bs, oC #[nv (toN a b r m i) v] 37) :: (br, oC #[.slice none 0 0] 37) :: O13) [] := MM140
    have hK_17 := hK1.mono hs16
    have hz18 : ∀ x ∈ O, x ∈ O13 := fun x hx => hs16 x (hsb x hx)
    have hN9 : Nats O13 [((nv (toN a b r m (i + 1)) lv12), toN a b r m (i + 1))] := .cons (hN15.get 0 rfl) (.nil _)
    refine rg_part 1 FF7 MM14 [b_ 0] [4, 7, 6, 3, 2, 0] (fun Kt => bs = bs ∧ (#[nv (toN a b r m i) v] : Array Value).size = 1 ∧ (#[nv (toN a b r m (i + 1)) lv12] : Array Value).size = 1 ∧ (#[nv (toN a b r m (i + 1)) lv12] : Array Value).all (·.oneCell') = true ∧ (0, 0).2 = 0 ∧ Kt [(4, iN i), (7, iN i), (6, iN (2 * r + 1)), (3, pT bs), (2, pT br), (0, pT g)] ((bs, oC #[nv (toN a b r m (i + 1)) lv12] 37) :: (br, oC #[.slice none 0 0] 37) :: O13)) (by kernel_rfl) (fun _ => by kernel_rfl) (⟨rfl, rfl, rfl, (by kernel_rfl), rfl, fun ac19 wd19 FF19 MM19 => ?_⟩)
    refine wpl_nil ?_
    refine inb_n (then_n ?_)
    refine rg_seq FF19 MM19 [o_, o_] [4, 7, 6, 3, 2, 0] (fun Kt => i + 1 < 9223372036854775808 ∧ Kt [(7, iN (i + 1)), (4, iN i), (6, iN (2 * r + 1)), (3, pT bs), (2, pT br), (0, pT g)] ((bs, oC #[nv (toN a b r m (i + 1)) lv12] 37) :: (br, oC #[.slice none 0 0] 37) :: O13)) (by kernel_rfl) (fun _ => by kernel_rfl) (⟨(by omega), fun ac20 wd20 FF20 MM20 => ?_⟩)
    have hd := cnt_of (FF20.get 0 rfl)
    refine then_n ⟨⟨O13, i + 1, lv12, by omega, hz18, hN9, hfrw, FF20.pick [0, 2, 3, 4, 5], MM20⟩, ?_⟩
    rw [hc, hd]; omega
  · skip
    refine then_n (.inr ⟨(FF5.ev 0 rfl).trans (dec_f hlt), ?_⟩)
    obtain rfl : i = 2 * r + 1 := by omega
    refine then_n ?_
    refine wp_seq (rg_seq FF5 MM5 [b_ 0, b_ 1] [7, 6, 3, 2, 0] (fun Kt => bs = bs ∧ (#[nv (toN a b r m (2 * r + 1)) v] : Array Value).size = 1 ∧ br = br ∧ (#[.slice none 0 0] : Array Value).size = 1 ∧ (#[nv (toN a b r m (2 * r + 1)) v] : Array Value).size = 1 ∧ (#[nv (toN a b r m (2 * r + 1)) v] : Array Value).all (·.oneCell') = true ∧ (0, 0).2 = 0 ∧ Kt [(7, iN (2 * r + 1)), (6, iN (2 * r + 1)), (3, pT bs), (2, pT br), (0, pT g)] ((bs, oC #[nv (toN a b r m (2 * r + 1)) v] 37) :: (br, oC #[nv (toN a b r m (2 * r + 1)) v] 37) :: O1)) (by kernel_rfl) (fun _ => by kernel_rfl) (⟨rfl, rfl, rfl, rfl, rfl, (by kernel_rfl), rfl, fun ac21 wd21 FF21 MM21 => then_n ?_⟩))
    refine wp_ret ?_
    repeat first | refine then_ret ?_ | refine inb_ret ?_
    exact (retc FF21 MM21 (k := 1) (i := 1) (j := 3) Tryd.results16 rfl rfl Tryd.underlying37 rfl (by kernel_rfl) rfl ⟨v, rfl, MM21.belowN H (fun _ hx => List.mem_cons_of_mem _ (List.mem_cons_of_mem _ (hsb _ hx))), ⟨(hN1.get 0 rfl).at (Has.tl (Has.tl MM21.hasL)), hfr⟩⟩)
theorem ktotal_any (g : Nat) (a b r m : Nat) (hk : TOk a b r m) (w0 : World) (hg : w0.heap[g]? = some (KB a b r m)) : Calls Tryd.prog 16 #[pT g] w0 fun e w' => ∃ v, e = .returned (.agg #[nv (toN a b r m (2 * r + 1)) v]) ∧ Below w0.heap.size w0 w' ∧ NatNew w0.heap.size w' (nv (toN a b r m (2 * r + 1)) v) (toN a b r m (2 * r + 1)) := by
  obtain ⟨O, h1, h2, h3⟩ := kone_O hg
  exact ktotal_O O h2 g a b r m hk h3 w0 h1
set_option maxRecDepth 100000 in
theorem kat_O (O : Blks) (hD : Distinct O) (g : Nat) (a b r m : Nat) (hk : TOk a b r m) (hK : KO O g a b r m) (N : Nat) (y : Value) (hW : NatO O (nv N y) N) (hs : qsz N < 1000000) (w0 : World) (H : Has w0 O) :
    Calls Tryd.prog 21 #[pT g, .agg #[nv N y]] w0 fun e w' => e = .returned (.tuple #[iN (aN a b r m N), .bool (decide (N < toN a b r m (2 * r + 1)))]) ∧ Below w0.heap.size w0 w' := by
  refine enter_fr Tryd.func21 rfl Tryd.ntmps21 (by simp) fun ac (FF : Fr 30 ac [(0, pT g), (1, aG #[nv N y])]) => ?_
  have MM : MemS (fun k => k < w0.heap.size ∧ ∀ x ∈ O, x.1 ≠ k) w0 w0 O [] := MemS.startN H hD
  have ⟨k1, k2, k3, k4, k5⟩ := hk
  refine wp_seq (rg_seq FF MM [o_, o_, o_] [0, 3, 4, 5] (fun Kt => ∀ bx, Kt [(5, .bool false), (4, iN 0), (3, pT bx), (0, pT g)] ((bx, oC #[nv N y] 37) :: O)) (by kernel_rfl) (fun _ => by kernel_rfl) (fun bx => fun ac1 wd1 FF1 MM1 => then_n ?_))
  refine wp_seq (rg_seq FF1 MM1 [o_] [5, 4, 3, 0, 6] (fun Kt => ∀ bs, Kt [(6, pT bs), (5, .bool false), (4, iN 0), (3, pT bx), (0, pT g)] ((bs, oC #[.slice none 0 0] 37) :: (bx, oC #[nv N y] 37) :: O)) (by kernel_rfl) (fun _ => by kernel_rfl) (fun bs => fun ac2 wd2 FF2 MM2 => then_n ?_))
  refine wp_seq ?_
  refine wp_seq (rg_seq FF2 MM2 [o_, u_ 1 (iN (2 * r + 1)), o_] [6, 5, 4, 3, 0, 10, 11] (fun Kt => CallP Tryd.prog 38 [pT g] ((bs, oC #[.slice none 0 0] 37) :: (bx, oC #[nv N y] 37) :: O) (iN (2 * r + 1)) ∧ Kt [(11, iN 0), (10, iN (2 * r + 1)), (6, pT bs), (5, .bool false), (4, iN 0), (3, pT bx), (0, pT g)] ((bs, oC #[.slice none 0 0] 37) :: (bx, oC #[nv N y] 37) :: O)) (by kernel_rfl) (fun _ => by kernel_rfl) (⟨⟨en_kcount, fun w Hw => kcount_any g a b r m hk w (hK.at (Has.tl (Has.tl Hw)))⟩, fun ac3 wd3 FF3 MM3 => then_n ?_⟩))
  refine wp_for (fun a' w' => ∃ O1 : Blks, ∃ i : Nat, ∃ v : Value, i ≤ 2 * r + 1 ∧ (∀ x ∈ O, x ∈ O1) ∧ Nats O1 [((nv (toN a b r m i) v), toN a b r m i)] ∧ (∀ g, (nv (toN a b r m i) v).ownBlock = some g → w0.heap.size ≤ g) ∧ toN a b r m i ≤ N ∧ Fr 30 a' [(11, iN i), (10, iN (2 * r + 1)), (6, pT bs), (3, pT bx), (0, pT g)] ∧ MemS (fun k => k < w0.heap.size ∧ ∀ x ∈ O, x.1 ≠ k) w0 w' ((bs, oC #[nv (toN a b r m i) v] 37) :: (bx, oC #[nv N y] 37) :: O1) []) (fun a' _ => (2 * r + 1 - cnt 11 a').toNat) ⟨O, 0, (.slice none 0 0), Nat.zero_le _, fun _ h => h, .cons (natO_nil O) (.nil _), (fun g hg => by cases hg), Nat.zero_le _, FF3.pick [0, 1, 2, 5, 6], MM3⟩ ?_
  rintro ac4 wd4 ⟨O1, i, v, hi, hsb, hN1, hfr, hle, FF4, MM4⟩
  have hK1 := hK.mono hsb
  have hN2 : Nats O1 [((nv (toN a b r m i) v), toN a b r m i), ((nv N y), N)] := .cons (hN1.get 0 rfl) (.cons (hW.mono hsb) (.nil _))
  have hc := cnt_of (FF4.get 0 rfl)
  refine rg_seq FF4 MM4 [o_] [11, 10, 6, 3, 0, 12] (fun Kt => Kt [(12, .bool (decide (i < (2 * r + 1)))), (11, iN i), (10, iN (2 * r + 1)), (6, pT bs), (3, pT bx), (0, pT g)] ((bs, oC #[nv (toN a b r m i) v] 37) :: (bx, oC #[nv N y] 37) :: O1)) (by kernel_rfl) (fun _ => by kernel_rfl) (fun ac5 wd5 FF5 MM5 => ?_)
  by_cases hlt : i < (2 * r + 1)
  · skip
    refine then_n (.inl ⟨(FF5.ev 0 rfl).trans (dec_t hlt), ?_⟩)
    have hi9 : i ≤ 8 := by omega
    refine wp_seq (rg_seq FF5 MM5 [o_, o_] [11, 10, 6, 3, 0, 7] (fun Kt => Kt [(7, iN i), (11, iN i), (10, iN (2 * r + 1)), (6, pT bs), (3, pT bx), (0, pT g)] ((bs, oC #[nv (toN a b r m i) v] 37) :: (bx, oC #[nv N y] 37) :: O1)) (by kernel_rfl) (fun _ => by kernel_rfl) (fun ac6 wd6 FF6 MM6 => then_n ?_))
    refine wp_seq (rg_seq FF6 MM6 [o_, u_ 1 (iN (m - r)), o_, o_, o_] [7, 11, 10, 6, 3, 0, 8] (fun Kt => CallP Tryd.prog 11 [pT g] ((bs, oC #[nv (toN a b r m i) v] 37) :: (bx, oC #[nv N y] 37) :: O1) (iN (m - r)) ∧ (m - r) + i < 9223372036854775808 ∧ Kt [(8, iN ((m - r) + i)), (7, iN i), (11, iN i), (10, iN (2 * r + 1)), (6, pT bs), (3, pT bx), (0, pT g)] ((bs, oC #[nv (toN a b r m i) v] 37) :: (bx, oC #[nv N y] 37) :: O1)) (by kernel_rfl) (fun _ => by kernel_rfl) (⟨⟨en_kleast, fun w Hw => kleast_any g a b r m hk w (hK1.at (Has.tl (Has.tl Hw)))⟩, (by omega), fun ac7 wd7 FF7 MM7 => then_n ?_⟩))
    have h0w := MM7.size
    refine wp_seq (rg_pred FF7 MM7 [.inl (aG #[nv (toN a b r m i) v]), .inl (pT g), .inl (iN ((m - r) + i)), (.inr (fun v => .agg #[nv (wgZ a b r m ((m - r + i : Nat) : Int)) v], fun v w => NatNew wd7.heap.size w (nv (wgZ a b r m ((m - r + i : Nat) : Int)) v) (wgZ a b r m ((m - r + i : Nat) : Int))) : Spec), (.inr (fun v => .slice (pOf v) 2 2, fun v w => RowNs w (pOf v) [toN a b r m i, wgZ a b r m ((m - r + i : Nat) : Int)]) : Spec), (.inr (fun v => .agg #[nv (toN a b r m (i + 1)) v], fun v w => NatNew wd7.heap.size w (nv (toN a b r m (i + 1)) v) (toN a b r m (i + 1))) : Spec)] [some (b_ 0), some (o_), some (o_), none, some (o_), none] [23, 8, 7, 11, 10, 6, 3, 0] (fun lx wq => [(bs = bs ∧ (#[nv (toN a b r m i) v] : Array Value).size = 1 ∧ aG #[nv (toN a b r m i) v] = aG #[nv (toN a b r m i) v]), (pT g = pT g), (iN ((m - r) + i) = iN ((m - r) + i)), (CallQ Tryd.prog 20 [pT g, iN ((m - r) + i)] wq (.inr (fun v => .agg #[nv (wgZ a b r m ((m - r + i : Nat) : Int)) v], fun v w => NatNew wd7.heap.size w (nv (wgZ a b r m ((m - r + i : Nat) : Int)) v) (wgZ a b r m ((m - r + i : Nat) : Int))) : Spec)), (NatNew wd7.heap.size wq (nv (wgZ a b r m ((m - r + i : Nat) : Int)) (lx 3)) (wgZ a b r m ((m - r + i : Nat) : Int)) → (∀ w', Below wq.heap.size wq w' → w'.heap[wq.heap.size]? = some (oC #[nv (toN a b r m i) v, nv (wgZ a b r m ((m - r + i : Nat) : Int)) (lx 3)] 37) → ∃ y, Value.slice (some ⟨wq.heap.size, 0, none⟩) 2 2 = (fun v => .slice (pOf v) 2 2) y ∧ RowNs w' (pOf y) [toN a b r m i, wgZ a b r m ((m - r + i : Nat) : Int)])), (RowNs wq (pOf (lx 4)) [toN a b r m i, wgZ a b r m ((m - r + i : Nat) : Int)] → NatNew wd7.heap.size wq (nv (wgZ a b r m ((m - r + i : Nat) : Int)) (lx 3)) (wgZ a b r m ((m - r + i : Nat) : Int)) → CallQ Tryd.prog 31 [.slice (pOf (lx 4)) 2 2] wq (.inr (fun v => .agg #[nv (toN a b r m (i + 1)) v], fun v w => NatNew wd7.heap.size w (nv (toN a b r m (i + 1)) v) (toN a b r m (i + 1))) : Spec))]) (fun lx => [(23, aG #[nv (toN a b r m (i + 1)) (lx 5)]), (8, iN ((m - r) + i)), (7, iN i), (11, iN i), (10, iN (2 * r + 1)), (6, pT bs), (3, pT bx), (0, pT g)]) (by kernel_rfl) (by kernel_rfl) (by kernel_rfl) ⟨(fun v w w1 => natNew_st _ _ (nv _ v) w w1), (rowNs_st [toN a b r m i, wgZ a b r m ((m - r + i : Nat) : Int)]), (fun v w w1 => natNew_st _ _ (nv _ v) w w1), trivial⟩ (fun _ _ => by kernel_rfl) (fun _ => by kernel_rfl) (fun lx wq hB9 hH9 => ⟨(⟨rfl, rfl, rfl⟩), (rfl), (rfl), (⟨en_kweight, (kweight_any g a b r m hk ((m - r + i : Nat) : Int) (by omega) (by omega) wq (hK1.at (Has.tl (Has.tl hH9)))).mono fun _ _ ⟨v, h1, h2, h3⟩ => ⟨v, h1, h2, h3.mono hB9.size⟩⟩), (fun h3_0 => fun w' hb hh => ⟨.slice (some ⟨wq.heap.size, 0, none⟩) 2 2, rfl, _, nats2 hh (((hN2.get 0 rfl).at (Has.tl (Has.tl hH9))).keep hb) (h3_0.1.keep hb)⟩), (fun h4_0 h3_1 => ⟨en_nadd, (nadd2r (toN a b r m i) (wgZ a b r m ((m - r + i : Nat) : Int)) (b100 (by have := to_le hk i; have := wg_le hk ((m - r + i : Nat) : Int); omega) : (toN a b r m i) + (wgZ a b r m ((m - r + i : Nat) : Int)) < 18446744073709551616 ^ 100) wq h4_0).mono fun _ _ ⟨v, h1, h2, h3⟩ => ⟨v, h1, h2, h3.mono hB9.size⟩⟩), trivial⟩) (fun lx ac8 wd8 hx9 hB10 FF8 MM8 => ?_))
    obtain ⟨hl3, hl4, hl5, -⟩ := hx9
    generalize lx 3 = lv11 at *
    generalize lx 4 = lv12 at *
    generalize lx 5 = lv13 at *
    have hfrw : ∀ g, (nv (toN a b r m (i + 1)) lv13).ownBlock = some g → w0.heap.size ≤ g := fun g hg => Nat.le_trans h0w (hl5.2 g hg)
    obtain ⟨O14, MM150, hN16, hs17⟩ := MemS.addNatsT (K := [(bs, oC #[nv (toN a b r m i) v] 37), (bx, oC #[nv N y] 37)]) (O := O1) MM7 MM8 rfl hl5 hN2
    have MM15 : MemS (fun k => k < w0.heap.size ∧ ∀ x ∈ O, x.1 ≠ k) w0 wd8 ((bs, oC #[nv (toN a b r m i) v] 37) :: (bx, oC #[nv N y] 37) :: O14) [] := MM150
    have hK_18 := hK1.mono hs17
    have hz19 : ∀ x ∈ O, x ∈ O14 := fun x hx => hs17 x (hsb x hx)
    have hN9 : Nats O14 [((nv (toN a b r m (i + 1)) lv13), toN a b r m (i + 1))] := .cons (hN16.get 0 rfl) (.nil _)
    refine rg_part 1 FF8 MM15 [b_ 0] [8, 7, 11, 10, 6, 3, 0] (fun Kt => bs = bs ∧ (#[nv (toN a b r m i) v] : Array Value).size = 1 ∧ (#[nv (toN a b r m (i + 1)) lv13] : Array Value).size = 1 ∧ (#[nv (toN a b r m (i + 1)) lv13] : Array Value).all (·.oneCell') = true ∧ (0, 0).2 = 0 ∧ Kt [(8, iN ((m - r) + i)), (7, iN i), (11, iN i), (10, iN (2 * r + 1)), (6, pT bs), (3, pT bx), (0, pT g)] ((bs, oC #[nv (toN a b r m (i + 1)) lv13] 37) :: (bx, oC #[nv N y] 37) :: O14)) (by kernel_rfl) (fun _ => by kernel_rfl) (⟨rfl, rfl, rfl, (by kernel_rfl), rfl, fun ac20 wd20 FF20 MM20 => ?_⟩)
    refine wpl_nil (then_n ?_)
    by_cases h4 : N < toN a b r m (i + 1)
    · skip
      refine wp_seq (rg_seq FF20 MM20 [b_ 1, b_ 0, u_ 1 (.int .i64 (cmpN N (toN a b r m (i + 1)) : Int)), u_ 4 (.bool true)] [8, 7, 11, 10, 6, 3, 0, 27] (fun Kt => bx = bx ∧ (#[nv N y] : Array Value).size = 1 ∧ bs = bs ∧ (#[nv (toN a b r m (i + 1)) lv13] : Array Value).size = 1 ∧ CallP Tryd.prog 33 [aG #[nv N y], aG #[nv (toN a b r m (i + 1)) lv13]] ((bs, oC #[nv (toN a b r m (i + 1)) lv13] 37) :: (bx, oC #[nv N y] 37) :: O14) (.int .i64 (cmpN N (toN a b r m (i + 1)) : Int)) ∧ Value.bool (decide ((cmpN N (toN a b r m (i + 1))) < ((0 : Nat) : Int))) = .bool true ∧ Kt [(27, .bool true), (8, iN ((m - r) + i)), (7, iN i), (11, iN i), (10, iN (2 * r + 1)), (6, pT bs), (3, pT bx), (0, pT g)] ((bs, oC #[nv (toN a b r m (i + 1)) lv13] 37) :: (bx, oC #[nv N y] 37) :: O14)) (by kernel_rfl) (fun _ => by kernel_rfl) (⟨rfl, rfl, rfl, rfl, ⟨en_ncmp, fun w Hw => ncmp_any N y hs (toN a b r m (i + 1)) lv13 w ((hN16.get 2 rfl).at (Has.tl (Has.tl Hw))) ((hN16.get 0 rfl).at (Has.tl (Has.tl Hw)))⟩, (dec_t ((cmp_neg _ _).2 h4)), fun ac21 wd21 FF21 MM21 => then_n ?_⟩))
      refine wp_cond_true (FF21.ev 0 rfl) ?_
      refine wp_seq (rg_seq FF21 MM21 [o_, o_, o_] [8, 7, 11, 10, 6, 3, 0, 4, 5] (fun Kt => Kt [(5, .bool true), (4, iN ((m - r) + i)), (8, iN ((m - r) + i)), (7, iN i), (11, iN i), (10, iN (2 * r + 1)), (6, pT bs), (3, pT bx), (0, pT g)] ((bs, oC #[nv (toN a b r m (i + 1)) lv13] 37) :: (bx, oC #[nv N y] 37) :: O14)) (by kernel_rfl) (fun _ => by kernel_rfl) (fun ac22 wd22 FF22 MM22 => then_n ?_))
      refine wp_ret ?_
      repeat first | refine then_ret ?_ | refine inb_ret ?_
      exact (ret_tup2 FF22 1 0 Tryd.results21 rfl rfl (by rw [a_yes (by omega) hle h4, decide_eq_true (atw_lt (by omega) h4)]; exact ⟨rfl, MM22.belowN H (fun _ hx => List.mem_cons_of_mem _ (List.mem_cons_of_mem _ (hz19 _ hx)))⟩))
    · skip
      refine wp_seq (rg_seq FF20 MM20 [b_ 1, b_ 0, u_ 1 (.int .i64 (cmpN N (toN a b r m (i + 1)) : Int)), u_ 4 (.bool false)] [8, 7, 11, 10, 6, 3, 0, 27] (fun Kt => bx = bx ∧ (#[nv N y] : Array Value).size = 1 ∧ bs = bs ∧ (#[nv (toN a b r m (i + 1)) lv13] : Array Value).size = 1 ∧ CallP Tryd.prog 33 [aG #[nv N y], aG #[nv (toN a b r m (i + 1)) lv13]] ((bs, oC #[nv (toN a b r m (i + 1)) lv13] 37) :: (bx, oC #[nv N y] 37) :: O14) (.int .i64 (cmpN N (toN a b r m (i + 1)) : Int)) ∧ Value.bool (decide ((cmpN N (toN a b r m (i + 1))) < ((0 : Nat) : Int))) = .bool false ∧ Kt [(27, .bool false), (8, iN ((m - r) + i)), (7, iN i), (11, iN i), (10, iN (2 * r + 1)), (6, pT bs), (3, pT bx), (0, pT g)] ((bs, oC #[nv (toN a b r m (i + 1)) lv13] 37) :: (bx, oC #[nv N y] 37) :: O14)) (by kernel_rfl) (fun _ => by kernel_rfl) (⟨rfl, rfl, rfl, rfl, ⟨en_ncmp, fun w Hw => ncmp_any N y hs (toN a b r m (i + 1)) lv13 w ((hN16.get 2 rfl).at (Has.tl (Has.tl Hw))) ((hN16.get 0 rfl).at (Has.tl (Has.tl Hw)))⟩, (dec_f (fun h => h4 ((cmp_neg _ _).1 h))), fun ac23 wd23 FF23 MM23 => then_n ?_⟩))
      refine wp_cond_false (FF23.ev 0 rfl) ?_
      refine wp_skip ?_
      refine inb_n (then_n ?_)
      refine rg_seq FF23 MM23 [o_, o_] [8, 7, 11, 10, 6, 3, 0] (fun Kt => i + 1 < 9223372036854775808 ∧ Kt [(11, iN (i + 1)), (8, iN ((m - r) + i)), (7, iN i), (10, iN (2 * r + 1)), (6, pT bs), (3, pT bx), (0, pT g)] ((bs, oC #[nv (toN a b r m (i + 1)) lv13] 37) :: (bx, oC #[nv N y] 37) :: O14)) (by kernel_rfl) (fun _ => by kernel_rfl) (⟨(by omega), fun ac24 wd24 FF24 MM24 => ?_⟩)
      have hd := cnt_of (FF24.get 0 rfl)
      refine then_n ⟨⟨O14, i + 1, lv13, by omega, hz19, hN9, hfrw, Nat.le_of_not_lt h4, FF24.pick [0, 3, 4, 5, 6], MM24⟩, ?_⟩
      rw [hc, hd]; omega
  · skip
    refine then_n (.inr ⟨(FF5.ev 0 rfl).trans (dec_f hlt), ?_⟩)
    obtain rfl : i = 2 * r + 1 := by omega
    refine then_n ?_
    refine wp_seq (rg_seq FF5 MM5 [o_, o_] [11, 10, 6, 3, 0, 4, 5] (fun Kt => Kt [(5, .bool false), (4, iN 0), (11, iN (2 * r + 1)), (10, iN (2 * r + 1)), (6, pT bs), (3, pT bx), (0, pT g)] ((bs, oC #[nv (toN a b r m (2 * r + 1)) v] 37) :: (bx, oC #[nv N y] 37) :: O1)) (by kernel_rfl) (fun _ => by kernel_rfl) (fun ac25 wd25 FF25 MM25 => then_n ?_))
    refine wp_ret ?_
    repeat first | refine then_ret ?_ | refine inb_ret ?_
    exact (ret_tup2 FF25 1 0 Tryd.results21 rfl rfl (by rw [a_no hle, decide_eq_false (Nat.not_lt.2 hle)]; exact ⟨rfl, MM25.belowN H (fun _ hx => List.mem_cons_of_mem _ (List.mem_cons_of_mem _ (hsb _ hx)))⟩))
theorem katone_O {w : World} {g a b r m N : Nat} {y : Value} (hg : w.heap[g]? = some (KB a b r m)) (hN : NatIn w (nv N y) N) : ∃ O : Blks, Has w O ∧ Distinct O ∧ KO O g a b r m ∧ NatO O (nv N y) N := by
  obtain ⟨O, h1, h2, h3, h4⟩ := nats_O [(nv N y, N)] (fun x hx => by simp at hx; subst hx; exact hN) [(g, KB a b r m)] (one_has hg) (by simp)
  exact ⟨O, h1, distinct_of h2, h4 _ (by simp), h3.get 0 rfl⟩
theorem kat_any (g : Nat) (a b r m : Nat) (hk : TOk a b r m) (N : Nat) (y : Value) (hs : qsz N < 1000000) (w0 : World) (hg : w0.heap[g]? = some (KB a b r m)) (hN : NatIn w0 (nv N y) N) : Calls Tryd.prog 21 #[pT g, .agg #[nv N y]] w0 fun e w' => e = .returned (.tuple #[iN (aN a b r m N), .bool (decide (N < toN a b r m (2 * r + 1)))]) ∧ Below w0.heap.size w0 w' := by
  obtain ⟨O, h1, h2, h3, h4⟩ := katone_O hg hN
  exact kat_O O h2 g a b r m hk h3 N y h4 hs w0 h1
end Go.Proofs.YtlljedijldkcbaaDoor
namespace Go.Proofs.YtlljedijldkcbaaDoor
open Go.RowKit
set_option maxRecDepth 100000 in
theorem kratio_yes (p q : Int) (h : 1 ≤ q ∧ q < p ∧ p ≤ 16) (_p1 : -9223372036854775808 ≤ p) (_p2 : p < 9223372036854775808) (_q1 : -9223372036854775808 ≤ q) (_q2 : q < 9223372036854775808) (w0 : World) :
    Calls Tryd.prog 56 #[.int .i64 p, .int .i64 q] w0 fun e w' => e = .returned (.bool true) ∧ Below w0.heap.size w0 w' := by
  refine enter_fr Tryd.func56 rfl Tryd.ntmps56 (by simp) fun ac (FF : Fr 16 ac [(0, .int .i64 (p : Int)), (1, .int .i64 (q : Int))]) => ?_
  have MM := MemS.start w0
  obtain ⟨h1, h2, h3⟩ := h
  refine wp_seq (rg_seq FF MM [o_] [0, 1, 4] (fun Kt => Kt [(4, .bool false), (0, .int .i64 (p : Int)), (1, .int .i64 (q : Int))] []) (by kernel_rfl) (fun _ => by kernel_rfl) (fun ac1 wd1 FF1 MM1 => then_n ?_))
  refine wp_seq (rg_seq FF1 MM1 [o_, w_ 6, o_, o_, o_, w_ 6, o_, o_, o_, w_ 6, o_, o_] [4] (fun Kt => q ≥ ((1 : Nat) : Int) ∧ q < p ∧ p ≤ ((16 : Nat) : Int) ∧ Kt [(4, .bool true)] []) (by kernel_rfl) (fun _ => by kernel_rfl) (⟨(by omega), (by omega), (by omega), fun ac2 wd2 FF2 MM2 => then_n ?_⟩))
  refine wp_ret ?_
  repeat first | refine then_ret ?_ | refine inb_ret ?_
  exact (ret_fr FF2 0 Tryd.results56 rfl ⟨rfl, MM2.below⟩)
set_option maxRecDepth 100000 in
theorem kratio_no (p q : Int) (h : ¬ (1 ≤ q ∧ q < p ∧ p ≤ 16)) (_p1 : -9223372036854775808 ≤ p) (_p2 : p < 9223372036854775808) (_q1 : -9223372036854775808 ≤ q) (_q2 : q < 9223372036854775808) (w0 : World) :
    Calls Tryd.prog 56 #[.int .i64 p, .int .i64 q] w0 fun e w' => e = .returned (.bool false) ∧ Below w0.heap.size w0 w' := by
  refine enter_fr Tryd.func56 rfl Tryd.ntmps56 (by simp) fun ac (FF : Fr 16 ac [(0, .int .i64 (p : Int)), (1, .int .i64 (q : Int))]) => ?_
  have MM := MemS.start w0
  refine wp_seq (rg_seq FF MM [o_] [0, 1, 4] (fun Kt => Kt [(4, .bool false), (0, .int .i64 (p : Int)), (1, .int .i64 (q : Int))] []) (by kernel_rfl) (fun _ => by kernel_rfl) (fun ac1 wd1 FF1 MM1 => then_n ?_))
  by_cases c0 : 1 ≤ q
  · skip
    by_cases c1 : q < p
    · skip
      by_cases c2 : p ≤ 16
      · skip
        exact (h ⟨by omega, by omega, by omega⟩).elim
      · skip
        refine wp_seq (rg_seq FF1 MM1 [o_, w_ 6, o_, o_, o_, w_ 6, o_, o_, o_, u_ 4 (.bool false), o_, o_] [4] (fun Kt => q ≥ ((1 : Nat) : Int) ∧ q < p ∧ Value.bool (decide (p ≤ ((16 : Nat) : Int))) = .bool false ∧ Kt [(4, .bool false)] []) (by kernel_rfl) (fun _ => by kernel_rfl) (⟨(by omega), (by omega), (dec_f (by omega)), fun ac2 wd2 FF2 MM2 => then_n ?_⟩))
        refine wp_ret ?_
        repeat first | refine then_ret ?_ | refine inb_ret ?_
        exact (ret_fr FF2 0 Tryd.results56 rfl ⟨rfl, MM2.below⟩)
    · skip
      refine wp_seq (rg_seq FF1 MM1 [o_, w_ 6, o_, o_, o_, u_ 4 (.bool false), o_, o_, o_, o_, o_, o_] [4] (fun Kt => q ≥ ((1 : Nat) : Int) ∧ Value.bool (decide (q < p)) = .bool false ∧ Kt [(4, .bool false)] []) (by kernel_rfl) (fun _ => by kernel_rfl) (⟨(by omega), (dec_f (by omega)), fun ac3 wd3 FF3 MM3 => then_n ?_⟩))
      refine wp_ret ?_
      repeat first | refine then_ret ?_ | refine inb_ret ?_
      exact (ret_fr FF3 0 Tryd.results56 rfl ⟨rfl, MM3.below⟩)
  · skip
    refine wp_seq (rg_seq FF1 MM1 [o_, u_ 4 (.bool false), o_, o_, o_, o_, o_, o_, o_, o_, o_, o_] [4] (fun Kt => Value.bool (decide (q ≥ ((1 : Nat) : Int))) = .bool false ∧ Kt [(4, .bool false)] []) (by kernel_rfl) (fun _ => by kernel_rfl) (⟨(dec_f (by omega)), fun ac4 wd4 FF4 MM4 => then_n ?_⟩))
    refine wp_ret ?_
    repeat first | refine then_ret ?_ | refine inb_ret ?_
    exact (ret_fr FF4 0 Tryd.results56 rfl ⟨rfl, MM4.below⟩)
set_option maxRecDepth 100000 in
theorem kspan_yes (p q : Int) (h : 0 ≤ p ∧ p ≤ q ∧ q + p ≤ 8) (_p1 : -9223372036854775808 ≤ p) (_p2 : p < 9223372036854775808) (_q1 : -9223372036854775808 ≤ q) (_q2 : q < 9223372036854775808) (w0 : World) :
    Calls Tryd.prog 57 #[.int .i64 p, .int .i64 q] w0 fun e w' => e = .returned (.bool true) ∧ Below w0.heap.size w0 w' := by
  refine enter_fr Tryd.func57 rfl Tryd.ntmps57 (by simp) fun ac (FF : Fr 18 ac [(0, .int .i64 (p : Int)), (1, .int .i64 (q : Int))]) => ?_
  have MM := MemS.start w0
  obtain ⟨h1, h2, h3⟩ := h
  refine wp_seq (rg_seq FF MM [o_] [0, 1, 4] (fun Kt => Kt [(4, .bool false), (0, .int .i64 (p : Int)), (1, .int .i64 (q : Int))] []) (by kernel_rfl) (fun _ => by kernel_rfl) (fun ac1 wd1 FF1 MM1 => then_n ?_))
  refine wp_seq (rg_seq FF1 MM1 [o_, w_ 6, o_, o_, o_, w_ 6, o_, o_, o_, o_, u_ 4 (.int .i64 (8 - p : Int)), w_ 6, o_, o_] [4] (fun Kt => p ≥ ((0 : Nat) : Int) ∧ q ≥ p ∧ -(9223372036854775808 : Int) ≤ ((8 : Nat) : Int) - p ∧ ((8 : Nat) : Int) - p < (9223372036854775808 : Nat) ∧ Value.int .i64 (((8 : Nat) : Int) - p : Int) = .int .i64 (8 - p : Int) ∧ q ≤ (8 - p) ∧ Kt [(4, .bool true)] []) (by kernel_rfl) (fun _ => by kernel_rfl) (⟨(by omega), (by omega), (by omega), (by omega), (vZ (by omega)), (by omega), fun ac2 wd2 FF2 MM2 => then_n ?_⟩))
  refine wp_ret ?_
  repeat first | refine then_ret ?_ | refine inb_ret ?_
  exact (ret_fr FF2 0 Tryd.results57 rfl ⟨rfl, MM2.below⟩)
set_option maxRecDepth 100000 in
theorem kspan_no (p q : Int) (h : ¬ (0 ≤ p ∧ p ≤ q ∧ q + p ≤ 8)) (_p1 : -9223372036854775808 ≤ p) (_p2 : p < 9223372036854775808) (_q1 : -9223372036854775808 ≤ q) (_q2 : q < 9223372036854775808) (w0 : World) :
    Calls Tryd.prog 57 #[.int .i64 p, .int .i64 q] w0 fun e w' => e = .returned (.bool false) ∧ Below w0.heap.size w0 w' := by
  refine enter_fr Tryd.func57 rfl Tryd.ntmps57 (by simp) fun ac (FF : Fr 18 ac [(0, .int .i64 (p : Int)), (1, .int .i64 (q : Int))]) => ?_
  have MM := MemS.start w0
  refine wp_seq (rg_seq FF MM [o_] [0, 1, 4] (fun Kt => Kt [(4, .bool false), (0, .int .i64 (p : Int)), (1, .int .i64 (q : Int))] []) (by kernel_rfl) (fun _ => by kernel_rfl) (fun ac1 wd1 FF1 MM1 => then_n ?_))
  by_cases c0 : 0 ≤ p
  · skip
    by_cases c1 : p ≤ q
    · skip
      by_cases c2 : q + p ≤ 8
      · skip
        exact (h ⟨by omega, by omega, by omega⟩).elim
      · skip
        refine wp_seq (rg_seq FF1 MM1 [o_, w_ 6, o_, o_, o_, w_ 6, o_, o_, o_, o_, u_ 4 (.int .i64 (8 - p : Int)), u_ 4 (.bool false), o_, o_] [4] (fun Kt => p ≥ ((0 : Nat) : Int) ∧ q ≥ p ∧ -(9223372036854775808 : Int) ≤ ((8 : Nat) : Int) - p ∧ ((8 : Nat) : Int) - p < (9223372036854775808 : Nat) ∧ Value.int .i64 (((8 : Nat) : Int) - p : Int) = .int .i64 (8 - p : Int) ∧ Value.bool (decide (q ≤ (8 - p))) = .bool false ∧ Kt [(4, .bool false)] []) (by kernel_rfl) (fun _ => by kernel_rfl) (⟨(by omega), (by omega), (by omega), (by omega), (vZ (by omega)), (dec_f (by omega)), fun ac2 wd2 FF2 MM2 => then_n ?_⟩))
        refine wp_ret ?_
        repeat first | refine then_ret ?_ | refine inb_ret ?_
        exact (ret_fr FF2 0 Tryd.results57 rfl ⟨rfl, MM2.below⟩)
    · skip
      refine wp_seq (rg_seq FF1 MM1 [o_, w_ 6, o_, o_, o_, u_ 4 (.bool false), o_, o_, o_, o_, o_, o_, o_, o_] [4] (fun Kt => p ≥ ((0 : Nat) : Int) ∧ Value.bool (decide (q ≥ p)) = .bool false ∧ Kt [(4, .bool false)] []) (by kernel_rfl) (fun _ => by kernel_rfl) (⟨(by omega), (dec_f (by omega)), fun ac3 wd3 FF3 MM3 => then_n ?_⟩))
      refine wp_ret ?_
      repeat first | refine then_ret ?_ | refine inb_ret ?_
      exact (ret_fr FF3 0 Tryd.results57 rfl ⟨rfl, MM3.below⟩)
  · skip
    refine wp_seq (rg_seq FF1 MM1 [o_, u_ 4 (.bool false), o_, o_, o_, o_, o_, o_, o_, o_, o_, o_, o_, o_] [4] (fun Kt => Value.bool (decide (p ≥ ((0 : Nat) : Int))) = .bool false ∧ Kt [(4, .bool false)] []) (by kernel_rfl) (fun _ => by kernel_rfl) (⟨(dec_f (by omega)), fun ac4 wd4 FF4 MM4 => then_n ?_⟩))
    refine wp_ret ?_
    repeat first | refine then_ret ?_ | refine inb_ret ?_
    exact (ret_fr FF4 0 Tryd.results57 rfl ⟨rfl, MM4.below⟩)
set_option maxRecDepth 100000 in
theorem knew_no (a b r m : Int) (h : ¬ TOz a b r m) (_a1 : -9223372036854775808 ≤ a) (_a2 : a < 9223372036854775808) (_b1 : -9223372036854775808 ≤ b) (_b2 : b < 9223372036854775808) (_r1 : -9223372036854775808 ≤ r) (_r2 : r < 9223372036854775808) (_m1 : -9223372036854775808 ≤ m) (_m2 : m < 9223372036854775808) (w0 : World) :
    Calls Tryd.prog 36 #[.int .i64 a, .int .i64 b, .int .i64 r, .int .i64 m] w0 fun e w' => e = .returned (.tuple #[.pointer none, iN 1]) ∧ Below w0.heap.size w0 w' := by
  refine enter_fr Tryd.func36 rfl Tryd.ntmps36 (by simp) fun ac (FF : Fr 26 ac [(0, .int .i64 (a : Int)), (1, .int .i64 (b : Int)), (2, .int .i64 (r : Int)), (3, .int .i64 (m : Int))]) => ?_
  have MM := MemS.start w0
  refine wp_seq (rg_seq FF MM [o_, o_] [0, 1, 2, 3, 8, 9] (fun Kt => Kt [(9, iN 0), (8, .pointer none), (0, .int .i64 (a : Int)), (1, .int .i64 (b : Int)), (2, .int .i64 (r : Int)), (3, .int .i64 (m : Int))] []) (by kernel_rfl) (fun _ => by kernel_rfl) (fun ac1 wd1 FF1 MM1 => then_n ?_))
  refine wp_seq ?_
  by_cases c0 : 1 ≤ b ∧ b < a ∧ a ≤ 16
  · skip
    refine wp_seq (rg_seq FF1 MM1 [o_, o_, t_ (.bool true), o_, o_, o_, o_, t_ (.bool false), o_, o_] [9, 8, 0, 1, 2, 3, 19] (fun Kt => CallP Tryd.prog 56 [.int .i64 (a : Int), .int .i64 (b : Int)] [] (.bool true) ∧ CallP Tryd.prog 57 [.int .i64 (r : Int), .int .i64 (m : Int)] [] (.bool false) ∧ Kt [(19, .bool true), (9, iN 0), (8, .pointer none), (0, .int .i64 (a : Int)), (1, .int .i64 (b : Int)), (2, .int .i64 (r : Int)), (3, .int .i64 (m : Int))] []) (by kernel_rfl) (fun _ => by kernel_rfl) (⟨(callP_of en_kratio (kratio_yes a b c0 (by omega) (by omega) (by omega) (by omega)) _), (callP_of en_kspan (kspan_no r m (fun s => h ⟨c0.1, c0.2.1, c0.2.2, s.1, s.2.1, s.2.2⟩) (by omega) (by omega) (by omega) (by omega)) _), fun ac2 wd2 FF2 MM2 => then_n ?_⟩))
    refine wp_cond_true (FF2.ev 0 rfl) ?_
    refine wp_seq (rg_seq FF2 MM2 [o_, o_] [9, 8, 0, 1, 2, 3] (fun Kt => Kt [(9, iN 1), (8, .pointer none), (0, .int .i64 (a : Int)), (1, .int .i64 (b : Int)), (2, .int .i64 (r : Int)), (3, .int .i64 (m : Int))] []) (by kernel_rfl) (fun _ => by kernel_rfl) (fun ac3 wd3 FF3 MM3 => then_n ?_))
    refine wp_ret ?_
    repeat first | refine then_ret ?_ | refine inb_ret ?_
    exact (ret_tup2 FF3 1 0 Tryd.results36 rfl rfl ⟨rfl, MM3.below⟩)
  · skip
    refine wp_seq (rg_seq FF1 MM1 [o_, o_, t_ (.bool false), o_, o_, o_, o_, o_, o_, o_] [9, 8, 0, 1, 2, 3, 19] (fun Kt => CallP Tryd.prog 56 [.int .i64 (a : Int), .int .i64 (b : Int)] [] (.bool false) ∧ Kt [(19, .bool true), (9, iN 0), (8, .pointer none), (0, .int .i64 (a : Int)), (1, .int .i64 (b : Int)), (2, .int .i64 (r : Int)), (3, .int .i64 (m : Int))] []) (by kernel_rfl) (fun _ => by kernel_rfl) (⟨(callP_of en_kratio (kratio_no a b c0 (by omega) (by omega) (by omega) (by omega)) _), fun ac4 wd4 FF4 MM4 => then_n ?_⟩))
    refine wp_cond_true (FF4.ev 0 rfl) ?_
    refine wp_seq (rg_seq FF4 MM4 [o_, o_] [9, 8, 0, 1, 2, 3] (fun Kt => Kt [(9, iN 1), (8, .pointer none), (0, .int .i64 (a : Int)), (1, .int .i64 (b : Int)), (2, .int .i64 (r : Int)), (3, .int .i64 (m : Int))] []) (by kernel_rfl) (fun _ => by kernel_rfl) (fun ac5 wd5 FF5 MM5 => then_n ?_))
    refine wp_ret ?_
    repeat first | refine then_ret ?_ | refine inb_ret ?_
    exact (ret_tup2 FF5 1 0 Tryd.results36 rfl rfl ⟨rfl, MM5.below⟩)
/-- A table that was made. -/
def NewK (a b r m : Nat) (w w' : World) (v : Value) : Prop := ∃ g, v = pT g ∧ Below w.heap.size w w' ∧ w.heap.size ≤ g ∧ w'.heap[g]? = some (KB a b r m)
set_option maxRecDepth 100000 in
theorem knew_yes (a b r m : Nat) (hk : TOk a b r m) (w0 : World) : Calls Tryd.prog 36 #[iN a, iN b, iN r, iN m] w0 fun e w' => ∃ v, e = .returned (.tuple #[v, iN 0]) ∧ NewK a b r m w0 w' v := by
  have ⟨k1, k2, k3, k4, k5⟩ := hk
  refine enter_fr Tryd.func36 rfl Tryd.ntmps36 (by simp) fun ac (FF : Fr 26 ac [(0, iN a), (1, iN b), (2, iN r), (3, iN m)]) => ?_
  have MM := MemS.start w0
  refine wp_seq (rg_seq FF MM [o_, o_] [0, 1, 2, 3, 8, 9] (fun Kt => Kt [(9, iN 0), (8, .pointer none), (0, iN a), (1, iN b), (2, iN r), (3, iN m)] []) (by kernel_rfl) (fun _ => by kernel_rfl) (fun ac1 wd1 FF1 MM1 => then_n ?_))
  refine wp_seq ?_
  refine wp_seq (rg_seq FF1 MM1 [o_, o_, t_ (.bool true), o_, o_, o_, o_, t_ (.bool true), o_, o_] [9, 8, 0, 1, 2, 3, 19] (fun Kt => CallP Tryd.prog 56 [iN a, iN b] [] (.bool true) ∧ CallP Tryd.prog 57 [iN r, iN m] [] (.bool true) ∧ Kt [(19, .bool false), (9, iN 0), (8, .pointer none), (0, iN a), (1, iN b), (2, iN r), (3, iN m)] []) (by kernel_rfl) (fun _ => by kernel_rfl) (⟨(callP_of en_kratio (kratio_yes ((a : Nat) : Int) ((b : Nat) : Int) ⟨by omega, by omega, by omega⟩ (by omega) (by omega) (by omega) (by omega)) _), (callP_of en_kspan (kspan_yes ((r : Nat) : Int) ((m : Nat) : Int) ⟨by omega, by omega, by omega⟩ (by omega) (by omega) (by omega) (by omega)) _), fun ac2 wd2 FF2 MM2 => then_n ?_⟩))
  refine wp_cond_false (FF2.ev 0 rfl) ?_
  refine wp_skip ?_
  refine then_n ?_
  refine wp_seq (rg_seq FF2 MM2 [o_, o_, o_, o_, o_, o_, o_, o_] [9, 8, 0, 1, 2, 3] (fun Kt => ∀ bt, Kt [(9, iN 0), (8, pT bt), (0, iN a), (1, iN b), (2, iN r), (3, iN m)] [(bt, oC #[iN a, iN b, iN r, iN m] 73)]) (by kernel_rfl) (fun _ => by kernel_rfl) (fun bt => fun ac3 wd3 FF3 MM3 => then_n ?_))
  refine wp_ret ?_
  repeat first | refine then_ret ?_ | refine inb_ret ?_
  exact (ret_tup2 FF3 1 0 Tryd.results36 rfl rfl ⟨_, rfl, bt, rfl, MM3.below, MM3.fresh 0 rfl, MM3.get 0 rfl⟩)
theorem en_lawOf : Enters Tryd.prog 9 := fun args w => by simp [go_sem]
theorem en_lawwakes : Enters Tryd.prog 8 := fun args w => by simp [go_sem]
set_option maxRecDepth 100000 in
theorem kof_yes (a b r m : Nat) (hk : TOk a b r m) (w0 : World) : Calls Tryd.prog 9 #[.agg #[iN a, iN b, iN r, iN m]] w0 fun e w' => ∃ v, e = .returned (.tuple #[v, iN 0]) ∧ NewK a b r m w0 w' v := by
  refine enter_fr Tryd.func9 rfl Tryd.ntmps9 (by simp) fun ac (FF : Fr 15 ac [(0, aG #[iN a, iN b, iN r, iN m])]) => ?_
  have MM := MemS.start w0
  refine wp_seq (rg_seq FF MM [o_, o_, o_] [1, 2, 3] (fun Kt => ∀ bq, Kt [(3, iN 0), (2, .pointer none), (1, pT bq)] [(bq, oC #[iN a, iN b, iN r, iN m] 27)]) (by kernel_rfl) (fun _ => by kernel_rfl) (fun bq => fun ac1 wd1 FF1 MM1 => then_n ?_))
  refine wp_seq (wp_region_list ?_)
  refine rg_part 8 FF1 MM1 [o_, l_ 0 (iN a), o_, l_ 0 (iN b), o_, l_ 0 (iN r), o_, l_ 0 (iN m)] [3, 2, 5, 7, 9, 11] (fun Kt => bq = bq ∧ (#[iN a, iN b, iN r, iN m] : Array Value)[0]? = some (iN a) ∧ bq = bq ∧ (#[iN a, iN b, iN r, iN m] : Array Value)[1]? = some (iN b) ∧ bq = bq ∧ (#[iN a, iN b, iN r, iN m] : Array Value)[2]? = some (iN r) ∧ bq = bq ∧ (#[iN a, iN b, iN r, iN m] : Array Value)[3]? = some (iN m) ∧ Kt [(11, iN m), (9, iN r), (7, iN b), (5, iN a), (3, iN 0), (2, .pointer none)] [(bq, oC #[iN a, iN b, iN r, iN m] 27)]) (by kernel_rfl) (fun _ => by kernel_rfl) (⟨rfl, rfl, rfl, rfl, rfl, rfl, rfl, rfl, fun ac2 wd2 FF2 MM2 => ?_⟩)
  refine st_callE [3, 2, 12] FF2 (d := 12) (mk := fun v => .tuple #[v, iN 0]) en_knew rfl rfl (knew_yes a b r m hk _) rfl (by kernel_rfl) (by decide) fun ac4 wd4 lv3 (FF4 : Fr 15 ac4 [(12, .tuple #[lv3, iN 0]), (3, iN 0), (2, .pointer none)]) hr5 => ?_
  obtain ⟨gk, rfl, hB_gk, hf_gk, hb_gk⟩ := hr5
  have MM6 := MM2.keep hB_gk
  have MM7 : MemS (fun k => k < w0.heap.size) w0 wd4 [(gk, oC #[iN a, iN b, iN r, iN m] 73), (bq, oC #[iN a, iN b, iN r, iN m] 27)] [] := MM2.addFresh MM6 hb_gk hf_gk
  refine rg_part 4 FF4 MM7 [o_, o_, o_, o_] [3, 2] (fun Kt => Kt [(3, iN 0), (2, pT gk)] [(gk, oC #[iN a, iN b, iN r, iN m] 73), (bq, oC #[iN a, iN b, iN r, iN m] 27)]) (by kernel_rfl) (fun _ => by kernel_rfl) (fun ac8 wd8 FF8 MM8 => ?_)
  refine wpl_nil (then_n ?_)
  refine wp_ret ?_
  repeat first | refine then_ret ?_ | refine inb_ret ?_
  exact (ret_tup2 FF8 1 0 Tryd.results9 rfl rfl ⟨_, rfl, gk, rfl, MM8.below, MM8.fresh 0 rfl, MM8.get 0 rfl⟩)
end Go.Proofs.YtlljedijldkcbaaDoor
namespace Go.Proofs.YtlljedijldkcbaaDoor
open Go.RowKit
theorem MemS.apartO {S : Nat → Prop} {w0 w : World} {K O : Blks} {R : List Row} {g : Nat} {ob : Obj} (M : MemS S w0 w (K ++ O) R) (i : Nat) (hi : K[i]? = some (g, ob)) : ∀ x ∈ O, x.1 ≠ g := fun x hx => by
  obtain ⟨j, hj⟩ := List.mem_iff_getElem?.1 hx
  have hl : i < K.length := by
    rcases Nat.lt_or_ge i K.length with h | h
    · exact h
    · rw [List.getElem?_eq_none h] at hi; cases hi
  exact M.apart (K.length + j) i x (g, ob) (by rw [List.getElem?_append_right (Nat.le_add_right _ _), Nat.add_sub_cancel_left]; exact hj) (by rw [List.getElem?_append_left hl]; exact hi) (by omega)
/-- What is drawn under all weights together. -/
def uN (a b r m k : Nat) (X : List Nat) : Nat × Nat × Nat := undN (toN a b r m (2 * r + 1)) (bsz (toN a b r m (2 * r + 1))) k X
/-- The number that is drawn. -/
def drN (a b r m k : Nat) (X : List Nat) : Nat := if (uN a b r m k X).2.1 = 0 then aN a b r m (uN a b r m k X).1 else 0
theorem tot_small {a b r m : Nat} (hk : TOk a b r m) : toN a b r m (2 * r + 1) < 1048576 := to_small hk (by have := hk.2.2.2.1; have := hk.2.2.2.2; omega)
theorem tot_b1 {a b r m : Nat} (hk : TOk a b r m) : 1 ≤ bsz (toN a b r m (2 * r + 1)) := bsz_pos (by have := to_pos hk; omega)
theorem tot_b2 {a b r m : Nat} (hk : TOk a b r m) : bsz (toN a b r m (2 * r + 1)) ≤ 20 := bsz_le (tot_small hk)
theorem un_q {a b r m k : Nat} {X : List Nat} (hk : TOk a b r m) : qsz (undN (toN a b r m (2 * r + 1)) (bsz (toN a b r m (2 * r + 1))) k X).1 < 1000000 := qok (Nat.lt_of_lt_of_le (und_lt (bsz_ok _).1 k X) (Nat.le_trans (Nat.pow_le_pow_right (by decide) (tot_b2 hk)) (by decide +kernel)))
set_option maxRecDepth 100000 in
theorem kdraw_O (gk g : Nat) (a b r m : Nat) (hk : TOk a b r m) (X : List Nat) (u : Nat) (hX : ∀ i, X.getD i 0 < 256) (hu : u < 4611686018427000000) (k : Nat) (hk1 : 1 ≤ k) (hk2 : k ≤ 16) (O : Blks) (hK : KO O gk a b r m) (w0 : World) (H : Has w0 ((g, TB X u) :: O)) (hD : Distinct ((g, TB X u) :: O)) :
    Calls Tryd.prog 26 #[pT gk, pT g, iN k] w0 fun e w' => e = .returned (.tuple #[iN (drN a b r m k X), iN ((uN a b r m k X).2.1)]) ∧ Turn g (TB (X.drop (uN a b r m k X).2.2) (u + (uN a b r m k X).2.2)) w0 w' := by
  have ⟨k1, k2, k3, k4, k5⟩ := hk
  refine enter_fr Tryd.func26 rfl Tryd.ntmps26 (by simp) fun ac (FF : Fr 30 ac [(0, pT gk), (1, pT g), (2, iN k)]) => ?_
  have MM : MemS (fun k => k < w0.heap.size ∧ ∀ x ∈ (g, oC #[sB X, iN u] 81) :: O, x.1 ≠ k) w0 w0 ((g, oC #[sB X, iN u] 81) :: O) [] := MemS.startN H hD
  refine wp_seq (rg_seq FF MM [o_, o_] [0, 1, 2, 6, 7] (fun Kt => Kt [(7, iN 0), (6, iN 0), (0, pT gk), (1, pT g), (2, iN k)] ((g, oC #[sB X, iN u] 81) :: O)) (by kernel_rfl) (fun _ => by kernel_rfl) (fun ac1 wd1 FF1 MM1 => then_n ?_))
  refine wp_seq (wp_region_list ?_)
  refine rg_part 2 FF1 MM1 [o_, o_] [7, 6, 0, 2, 13, 14] (fun Kt => Kt [(14, pT gk), (13, pT g), (7, iN 0), (6, iN 0), (0, pT gk), (2, iN k)] ((g, oC #[sB X, iN u] 81) :: O)) (by kernel_rfl) (fun _ => by kernel_rfl) (fun ac2 wd2 FF2 MM2 => ?_)
  refine st_callE [13, 7, 6, 0, 2, 15] FF2 (d := 15) (mk := fun v => .agg #[nv (toN a b r m (2 * r + 1)) v]) en_ktotal rfl rfl (ktotal_any gk a b r m hk _ (hK.at (Has.tl MM2.hasL))) rfl (by kernel_rfl) (by decide) fun ac4 wd4 lv3 (FF4 : Fr 30 ac4 [(15, aG #[nv (toN a b r m (2 * r + 1)) lv3]), (13, pT g), (7, iN 0), (6, iN 0), (0, pT gk), (2, iN k)]) hr5 => ?_
  have hfr6 : ∀ g, (nv (toN a b r m (2 * r + 1)) lv3).ownBlock = some g → w0.heap.size ≤ g := fun g hg => Nat.le_trans MM2.size (hr5.2.2 g hg)
  obtain ⟨O7, MM80, hN9, hs10⟩ := MemS.addNats (K := [(g, oC #[sB X, iN u] 81)]) (O := O) MM2 hr5.1 hr5.2 (Nats.nil O)
  have MM8 : MemS (fun k => k < w0.heap.size ∧ ∀ x ∈ (g, oC #[sB X, iN u] 81) :: O, x.1 ≠ k) w0 wd4 ((g, oC #[sB X, iN u] 81) :: O7) [] := MM80
  have hK_11 := hK.mono hs10
  refine rg_part 1 FF4 MM8 [o_] [15, 13, 7, 6, 0, 16] (fun Kt => Kt [(16, iN k), (15, aG #[nv (toN a b r m (2 * r + 1)) lv3]), (13, pT g), (7, iN 0), (6, iN 0), (0, pT gk)] ((g, oC #[sB X, iN u] 81) :: O7)) (by kernel_rfl) (fun _ => by kernel_rfl) (fun ac12 wd12 FF12 MM12 => ?_)
  refine st_callE [7, 6, 0, 17] FF12 (d := 17) (mk := fun v => .tuple #[.agg #[nv ((undN (toN a b r m (2 * r + 1)) (bsz (toN a b r m (2 * r + 1))) k X).1) v], iN ((undN (toN a b r m (2 * r + 1)) (bsz (toN a b r m (2 * r + 1))) k X).2.1)]) en_tunder rfl rfl (by have h0 := tunder_any g X u hX (by omega) (toN a b r m (2 * r + 1)) lv3 k (tot_b1 hk) (Nat.le_trans (tot_b2 hk) (by decide)) hk1 hk2 wd12 (MM12.get 0 rfl) ((hN9.get 0 rfl).at (Has.tl MM12.hasL)) (natO_ne (hN9.get 0 rfl) (MemS.apartO (K := [(g, oC #[sB X, iN u] 81)]) MM12 0 rfl)); exact h0) rfl (by kernel_rfl) (by decide) fun ac14 wd14 lv13 (FF14 : Fr 30 ac14 [(17, .tuple #[aG #[nv ((undN (toN a b r m (2 * r + 1)) (bsz (toN a b r m (2 * r + 1))) k X).1) lv13], iN ((undN (toN a b r m (2 * r + 1)) (bsz (toN a b r m (2 * r + 1))) k X).2.1)]), (7, iN 0), (6, iN 0), (0, pT gk)]) hr15 => ?_
  obtain ⟨ht9, hn9⟩ := hr15
  have MM16 : MemS (fun k => k < w0.heap.size ∧ ∀ x ∈ (g, oC #[sB X, iN u] 81) :: O, x.1 ≠ k) w0 wd14 ((g, oC #[sB (X.drop (undN (toN a b r m (2 * r + 1)) (bsz (toN a b r m (2 * r + 1))) k X).2.2), iN (u + (undN (toN a b r m (2 * r + 1)) (bsz (toN a b r m (2 * r + 1))) k X).2.2)] 81) :: O7) [] := MM12.turnAt ht9 0 rfl
  obtain ⟨O17, MM180, hN19, hs20⟩ := MemS.addNatsT (K := [(g, oC #[sB (X.drop (undN (toN a b r m (2 * r + 1)) (bsz (toN a b r m (2 * r + 1))) k X).2.2), iN (u + (undN (toN a b r m (2 * r + 1)) (bsz (toN a b r m (2 * r + 1))) k X).2.2)] 81)]) (O := O7) MM12 MM16 rfl hn9 hN9
  have MM18 : MemS (fun k => k < w0.heap.size ∧ ∀ x ∈ (g, oC #[sB X, iN u] 81) :: O, x.1 ≠ k) w0 wd14 ((g, oC #[sB (X.drop (undN (toN a b r m (2 * r + 1)) (bsz (toN a b r m (2 * r + 1))) k X).2.2), iN (u + (undN (toN a b r m (2 * r + 1)) (bsz (toN a b r m (2 * r + 1))) k X).2.2)] 81) :: O17) [] := MM180
  have hK_21 := hK_11.mono hs20
  have hz22 : ∀ x ∈ O, x ∈ O17 := fun x hx => hs20 x (hs10 x hx)
  refine rg_part 6 FF14 MM18 [o_, o_, o_, o_, b_ 0, o_] [7, 6, 0, 8, 9] (fun Kt => ∀ bw, bw = bw ∧ (#[.slice none 0 0] : Array Value).size = 1 ∧ (#[nv ((undN (toN a b r m (2 * r + 1)) (bsz (toN a b r m (2 * r + 1))) k X).1) lv13] : Array Value).size = 1 ∧ (#[nv ((undN (toN a b r m (2 * r + 1)) (bsz (toN a b r m (2 * r + 1))) k X).1) lv13] : Array Value).all (·.oneCell') = true ∧ (0, 0).2 = 0 ∧ Kt [(9, iN ((undN (toN a b r m (2 * r + 1)) (bsz (toN a b r m (2 * r + 1))) k X).2.1)), (8, pT bw), (7, iN 0), (6, iN 0), (0, pT gk)] ((bw, oC #[nv ((undN (toN a b r m (2 * r + 1)) (bsz (toN a b r m (2 * r + 1))) k X).1) lv13] 37) :: (g, oC #[sB (X.drop (undN (toN a b r m (2 * r + 1)) (bsz (toN a b r m (2 * r + 1))) k X).2.2), iN (u + (undN (toN a b r m (2 * r + 1)) (bsz (toN a b r m (2 * r + 1))) k X).2.2)] 81) :: O17)) (by kernel_rfl) (fun _ => by kernel_rfl) (fun bw => ⟨rfl, rfl, rfl, (by kernel_rfl), rfl, fun ac23 wd23 FF23 MM23 => ?_⟩)
  refine wpl_nil (then_n ?_)
  refine wp_seq ?_
  refine wp_seq (rg_seq FF23 MM23 [o_, o_] [9, 8, 7, 6, 0, 21] (fun Kt => Kt [(21, .bool (decide (((undN (toN a b r m (2 * r + 1)) (bsz (toN a b r m (2 * r + 1))) k X).2.1) ≠ 0))), (9, iN ((undN (toN a b r m (2 * r + 1)) (bsz (toN a b r m (2 * r + 1))) k X).2.1)), (8, pT bw), (7, iN 0), (6, iN 0), (0, pT gk)] ((bw, oC #[nv ((undN (toN a b r m (2 * r + 1)) (bsz (toN a b r m (2 * r + 1))) k X).1) lv13] 37) :: (g, oC #[sB (X.drop (undN (toN a b r m (2 * r + 1)) (bsz (toN a b r m (2 * r + 1))) k X).2.2), iN (u + (undN (toN a b r m (2 * r + 1)) (bsz (toN a b r m (2 * r + 1))) k X).2.2)] 81) :: O17)) (by kernel_rfl) (fun _ => by kernel_rfl) (fun ac24 wd24 FF24 MM24 => then_n ?_))
  by_cases hs21 : ((undN (toN a b r m (2 * r + 1)) (bsz (toN a b r m (2 * r + 1))) k X).2.1) ≠ 0
  · refine wp_cond_true ((FF24.ev 0 rfl).trans (dec_t hs21)) ?_
    refine wp_seq (rg_seq FF24 MM24 [o_, o_, o_] [9, 8, 7, 6, 0] (fun Kt => Kt [(7, iN ((undN (toN a b r m (2 * r + 1)) (bsz (toN a b r m (2 * r + 1))) k X).2.1)), (6, iN 0), (9, iN ((undN (toN a b r m (2 * r + 1)) (bsz (toN a b r m (2 * r + 1))) k X).2.1)), (8, pT bw), (0, pT gk)] ((bw, oC #[nv ((undN (toN a b r m (2 * r + 1)) (bsz (toN a b r m (2 * r + 1))) k X).1) lv13] 37) :: (g, oC #[sB (X.drop (undN (toN a b r m (2 * r + 1)) (bsz (toN a b r m (2 * r + 1))) k X).2.2), iN (u + (undN (toN a b r m (2 * r + 1)) (bsz (toN a b r m (2 * r + 1))) k X).2.2)] 81) :: O17)) (by kernel_rfl) (fun _ => by kernel_rfl) (fun ac25 wd25 FF25 MM25 => then_n ?_))
    refine wp_ret ?_
    repeat first | refine then_ret ?_ | refine inb_ret ?_
    exact (ret_tup2 FF25 1 0 Tryd.results26 rfl rfl (by rw [drN, uN, if_neg hs21]; exact ⟨rfl, MM25.turn (Has.tl H) 1 rfl (fun _ hx => List.mem_cons_of_mem _ (List.mem_cons_of_mem _ (hz22 _ hx)))⟩))
  · refine wp_cond_false ((FF24.ev 0 rfl).trans (dec_f hs21)) ?_
    refine wp_skip ?_
    refine then_n ?_
    refine wp_seq (rg_seq FF24 MM24 [o_, b_ 0, u_ 1 (.tuple #[iN (aN a b r m ((undN (toN a b r m (2 * r + 1)) (bsz (toN a b r m (2 * r + 1))) k X).1)), .bool (decide ((undN (toN a b r m (2 * r + 1)) (bsz (toN a b r m (2 * r + 1))) k X).1 < toN a b r m (2 * r + 1)))]), o_, o_, o_, o_, o_] [9, 8, 7, 6, 0, 10] (fun Kt => bw = bw ∧ (#[nv ((undN (toN a b r m (2 * r + 1)) (bsz (toN a b r m (2 * r + 1))) k X).1) lv13] : Array Value).size = 1 ∧ CallP Tryd.prog 21 [pT gk, aG #[nv ((undN (toN a b r m (2 * r + 1)) (bsz (toN a b r m (2 * r + 1))) k X).1) lv13]] ((bw, oC #[nv ((undN (toN a b r m (2 * r + 1)) (bsz (toN a b r m (2 * r + 1))) k X).1) lv13] 37) :: (g, oC #[sB (X.drop (undN (toN a b r m (2 * r + 1)) (bsz (toN a b r m (2 * r + 1))) k X).2.2), iN (u + (undN (toN a b r m (2 * r + 1)) (bsz (toN a b r m (2 * r + 1))) k X).2.2)] 81) :: O17) (.tuple #[iN (aN a b r m ((undN (toN a b r m (2 * r + 1)) (bsz (toN a b r m (2 * r + 1))) k X).1)), .bool (decide ((undN (toN a b r m (2 * r + 1)) (bsz (toN a b r m (2 * r + 1))) k X).1 < toN a b r m (2 * r + 1)))]) ∧ Kt [(10, iN (aN a b r m ((undN (toN a b r m (2 * r + 1)) (bsz (toN a b r m (2 * r + 1))) k X).1))), (9, iN ((undN (toN a b r m (2 * r + 1)) (bsz (toN a b r m (2 * r + 1))) k X).2.1)), (8, pT bw), (7, iN 0), (6, iN 0), (0, pT gk)] ((bw, oC #[nv ((undN (toN a b r m (2 * r + 1)) (bsz (toN a b r m (2 * r + 1))) k X).1) lv13] 37) :: (g, oC #[sB (X.drop (undN (toN a b r m (2 * r + 1)) (bsz (toN a b r m (2 * r + 1))) k X).2.2), iN (u + (undN (toN a b r m (2 * r + 1)) (bsz (toN a b r m (2 * r + 1))) k X).2.2)] 81) :: O17)) (by kernel_rfl) (fun _ => by kernel_rfl) (⟨rfl, rfl, ⟨en_kat, fun w Hw => kat_any gk a b r m hk ((undN (toN a b r m (2 * r + 1)) (bsz (toN a b r m (2 * r + 1))) k X).1) lv13 (un_q hk) w (hK_21.at (Has.tl (Has.tl Hw))) ((hN19.get 0 rfl).at (Has.tl (Has.tl Hw)))⟩, fun ac26 wd26 FF26 MM26 => then_n ?_⟩))
    refine wp_seq (rg_seq FF26 MM26 [o_, o_, o_] [9, 8, 7, 6, 0] (fun Kt => Kt [(7, iN 0), (6, iN (aN a b r m ((undN (toN a b r m (2 * r + 1)) (bsz (toN a b r m (2 * r + 1))) k X).1))), (9, iN ((undN (toN a b r m (2 * r + 1)) (bsz (toN a b r m (2 * r + 1))) k X).2.1)), (8, pT bw), (0, pT gk)] ((bw, oC #[nv ((undN (toN a b r m (2 * r + 1)) (bsz (toN a b r m (2 * r + 1))) k X).1) lv13] 37) :: (g, oC #[sB (X.drop (undN (toN a b r m (2 * r + 1)) (bsz (toN a b r m (2 * r + 1))) k X).2.2), iN (u + (undN (toN a b r m (2 * r + 1)) (bsz (toN a b r m (2 * r + 1))) k X).2.2)] 81) :: O17)) (by kernel_rfl) (fun _ => by kernel_rfl) (fun ac27 wd27 FF27 MM27 => then_n ?_))
    refine wp_ret ?_
    repeat first | refine then_ret ?_ | refine inb_ret ?_
    exact (ret_tup2 FF27 1 0 Tryd.results26 rfl rfl (by have hE : (undN (toN a b r m (2 * r + 1)) (bsz (toN a b r m (2 * r + 1))) k X).2.1 = 0 := Decidable.of_not_not hs21; rw [drN, uN, if_pos hE]; exact ⟨by rw [hE], MM27.turn (Has.tl H) 1 rfl (fun _ hx => List.mem_cons_of_mem _ (List.mem_cons_of_mem _ (hz22 _ hx)))⟩))
theorem kdraw_any (gk g : Nat) (a b r m : Nat) (hk : TOk a b r m) (X : List Nat) (u : Nat) (hX : ∀ i, X.getD i 0 < 256) (hu : u < 4611686018427000000) (k : Nat) (hk1 : 1 ≤ k) (hk2 : k ≤ 16) (w0 : World) (hgk : w0.heap[gk]? = some (KB a b r m)) (hg : w0.heap[g]? = some (TB X u)) :
    Calls Tryd.prog 26 #[pT gk, pT g, iN k] w0 fun e w' => e = .returned (.tuple #[iN (drN a b r m k X), iN ((uN a b r m k X).2.1)]) ∧ Turn g (TB (X.drop (uN a b r m k X).2.2) (u + (uN a b r m k X).2.2)) w0 w' := by
  have hne : gk ≠ g := fun e => by subst e; rw [hg] at hgk; simp at hgk
  refine kdraw_O gk g a b r m hk X u hX hu k hk1 hk2 [(gk, KB a b r m)] (by simp [KO]) w0 (fun i x hx => ?_) ⟨fun y hy => ?_, fun y hy => (nomatch hy), trivial⟩
  · match i with
    | 0 => simp at hx; subst hx; exact hg
    | 1 => simp at hx; subst hx; exact hgk
    | i + 2 => simp at hx
  · simp at hy; subst hy; exact fun e => hne (by first | exact e | exact e.symm)
end Go.Proofs.YtlljedijldkcbaaDoor
namespace Go.Proofs.YtlljedijldkcbaaDoor
open Go.ChangeShapes Go.WideShapes Go.ChangeAt Go.RowKit
theorem Tryd.own : ownKnob Tryd.prog.godebug = Option.none := by kernel_rfl
theorem Tryd.laidOut : laidOutB Tryd.prog = true := by kernel_rfl
section
variable {H : Type} {enc : TypeId × Value → H} {P : Program}
theorem trodAll_below (hl : laidOutB P = true) {W W' : World} (hb : Below W.heap.size W W') : ∀ (ts : List TypeId) (vs : List Value) (ds : List (DataW H)) (ps : List MemPlace), (∀ t ∈ ts, P.readableRec t = true ∧ t < P.types.size) →
    DataW.TrodAll enc P W 0 (fun _ => true) true ts vs ds ps → (∀ x ∈ ps, x.block < W.heap.size) → DataW.TrodAll enc P W' 0 (fun b => decide (b < W.heap.size)) true ts vs ds ps
  | [], [], [], _, _, h, _ => h
  | t :: ts, v :: vs, d :: ds, ps, hr, ⟨p, q, h1, h2, e⟩, hlt => by
    subst e
    obtain ⟨r1, r2⟩ := hr t (by simp)
    exact ⟨p, q, Below.trod hl r1 r2 h1 hb (fun x hx => hlt x (by simp [hx])), trodAll_below hl hb ts vs ds q (fun t ht => hr t (by simp [ht])) h2 (fun x hx => hlt x (by simp [hx])), rfl⟩
  | [], [], _ :: _, _, _, h, _ => h.elim
  | [], _ :: _, _, _, _, h, _ => by cases h
  | _ :: _, [], _, _, _, h, _ => by cases h
  | _ :: _, _ :: _, [], _, _, h, _ => h.elim
/-- What is asked behind a law's walk. -/
theorem post_true {f : Func} {s : ChangeSpec} {W W' : World} {args : Array Value} {ds : List (DataW H)} {before : List MemPlace} {T : TypeId} (hl : laidOutB P = true) (hr : ∀ t ∈ f.params.toList, P.readableRec t = true ∧ t < P.types.size) (hv : s.vars = [])
    (hW : DataW.Whole enc P f.params.toList s.vars false W args.toList ds [] before) (hres : (s.fn H (ds ++ [])).results = [.lit (.bool true)]) (hargs : (s.fn H (ds ++ [])).args = ds) (hvs : (s.fn H (ds ++ [])).vars = [])
    (hT : f.resultTypes = #[T]) (hu : P.underlying T = some .bool) (hb : Below W.heap.size W W') : s.post enc P f false true false false W args (.bool true) W' := by
  have hlt := hW.lt
  have hW' := hW
  obtain ⟨p, q, hA, hV, rfl, _, _⟩ := hW'
  refine ⟨ds, [], p ++ q, [], p, [], hW, ?_, ?_, ?_, hb.frame _, fun h => by cases h⟩
  · rw [hres, hT]
    exact trodAll_cons_mk (shut_bool hu _) rfl
  · rw [hargs]
    exact trodAll_below hl hb _ _ _ _ hr hA (fun x hx => hlt x (by simp [hx]))
  · rw [hvs, hv]
    exact rfl
theorem okWide_arr {w : World} {r : Reach} {base : Nat} {t : TypeId} {v : Value} {n : Nat} {e : TypeId} (ht : P.underlying t = some (.array n e)) (h : Value.okWide P w r base t v) : ∃ cs, v = .agg cs ∧ cs.size = P.cellsOf t := by
  simp only [Value.okWide, ht] at h
  obtain ⟨cs, h1, h2, _⟩ := h
  exact ⟨cs, h1, h2⟩
end
section
variable {H : Type} {enc : TypeId × Value → H} {P : Program}
/-- Bytes that come in within something greater. -/
theorem bytes_in {W : World} {base' : Nat} {spare : Nat → Bool} {held : Bool} {fuel n : Nat} {t e : TypeId} {L : List Value} {x : DataW H × List MemPlace} (hu : P.underlying t = some (.array n e)) (he : P.underlying e = some (.int .u8)) (hc : P.cellsOf e = 1) (hf : DataW.trod enc P W base' spare held fuel t L = some x) :
    ∃ ks : List Nat, Bytes n ks ∧ ∀ (j : Nat) (v : Value), (cn .u8 ks)[j]? = some v → L[j]? = some v := by
  obtain ⟨xs, m, _, _, _, hl, hel⟩ := DataW.trod_array hu hf
  rw [hc] at hel
  have key : ∀ i, i < n → ∃ k : Nat, L[i]? = some (.int .u8 (k : Int)) ∧ k < 256 := fun i hi => by
    have h1 := hel i hi
    have h2 : xs[i]? = some (xs[i]'(by omega)) := by simp
    rw [h2] at h1
    obtain ⟨k, e, _, wf⟩ := DataW.trod_int he h1
    obtain ⟨b0, b1⟩ := bounds_u8 wf
    obtain ⟨k, rfl⟩ := Int.eq_ofNat_of_zero_le b0
    refine ⟨k, ?_, by omega⟩
    rw [Nat.mul_one] at e
    have h3 := congrArg (fun l => l[0]?) e
    simpa using h3
  have hk : ∃ f : Nat → Nat, ∀ i, i < n → L[i]? = some (.int .u8 (f i : Int)) ∧ f i < 256 :=
    ⟨fun i => if h : i < n then (key i h).choose else 0, fun i hi => by simp only [hi, dif_pos]; exact (key i hi).choose_spec⟩
  obtain ⟨f, hf⟩ := hk
  refine ⟨(List.range n).map f, ⟨by simp, fun i => ?_⟩, fun j v hv => ?_⟩
  · rcases Nat.lt_or_ge i n with h | h
    · simp [h]; exact (hf i h).2
    · simp [h]
  · rcases Nat.lt_or_ge j n with h | h
    · rw [(hf j h).1, ← hv, cn_get _ _ _ (by simpa using h)]; simp [h]
    · rw [Array.getElem?_eq_none (by rw [cn_size]; simpa using h)] at hv; cases hv
/-- An array of bytes that comes in alone. -/
theorem open_bytes {W : World} {r : Reach} {base base' : Nat} {spare : Nat → Bool} {held : Bool} {v : Value} {d : DataW H} {p : List MemPlace} {t e : TypeId} {n : Nat} (hu : P.underlying t = some (.array n e)) (he : P.underlying e = some (.int .u8)) (hc : P.cellsOf e = 1) (ht : P.cellsOf t = n)
    (hv : Value.okWide P W r base t v) (h : DataW.Trod enc P W base' spare held t v d p) : ∃ ks : List Nat, Bytes n ks ∧ v = .agg (cn .u8 ks) := by
  obtain ⟨cs, rfl, hsz⟩ := okWide_arr hu hv
  rw [ht] at hsz
  obtain ⟨fuel, hf⟩ := h
  obtain ⟨ks, bk, pk⟩ := bytes_in hu he hc hf
  refine ⟨ks, bk, ?_⟩
  congr 1
  refine Array.ext_getElem? fun i => ?_
  rcases Nat.lt_or_ge i n with hi | hi
  · have h1 := cn_get .u8 ks i (by rw [bk.len]; exact hi)
    have h2 := pk i _ h1
    rw [h1]
    simpa [Value.cells] using h2
  · rw [Array.getElem?_eq_none (by omega), Array.getElem?_eq_none (by rw [cn_size, bk.len]; exact hi)]
end
end Go.Proofs.YtlljedijldkcbaaDoor
namespace Go.Proofs.YtlljedijldkcbaaDoor
open Go.RowKit
section
variable {P : Program} {w w' : World} {l : Slots} {L O : Blks} {o : Oper} {m n : Nat} {V : Nat → Value} {p : Option Addr}
/-- From p on, in w, m cells that hold V. -/
def RowIn (w : World) (p : Option Addr) (m : Nat) (V : Nat → Value) : Prop :=
  m = 0 ∨ ∃ (b off : Nat) (cs : Array Value) (T : TypeId) (fr : Nat × Nat), p = some ⟨b, off, none⟩ ∧ w.heap[b]? = some (.cells cs T fr) ∧ ∀ j, j < m → cs[off + j]? = some (V j)
def RowO (O : Blks) (p : Option Addr) (m : Nat) (V : Nat → Value) : Prop :=
  m = 0 ∨ ∃ (b off : Nat) (cs : Array Value) (T : TypeId) (fr : Nat × Nat), p = some ⟨b, off, none⟩ ∧ (b, Obj.cells cs T fr) ∈ O ∧ ∀ j, j < m → cs[off + j]? = some (V j)
theorem RowO.mono {O' : Blks} (h : RowO O p m V) (hs : ∀ x ∈ O, x ∈ O') : RowO O' p m V := by
  rcases h with h | ⟨b, off, cs, T, fr, h1, h2, h3⟩
  · exact .inl h
  · exact .inr ⟨b, off, cs, T, fr, h1, hs _ h2, h3⟩
theorem RowO.at (h : RowO O p m V) (H : Has w O) : RowIn w p m V := by
  rcases h with h | ⟨b, off, cs, T, fr, h1, h2, h3⟩
  · exact .inl h
  · exact .inr ⟨b, off, cs, T, fr, h1, Has.mem H h2, h3⟩
end
section
variable {P : Program} {ops : Array Oper} {a : Act} {w0 w : World} {Q : Exit → Act → World → Prop} {n b : Nat} {ob : Obj} {l : Slots} {L : Blks} {S : Nat → Prop} {R : List Row} {o : Oper}
end
open Go.ChangeShapes Go.WideShapes Go.ChangeAt
section
variable {P : Program} {H : Type} {enc : TypeId × Value → H} {W : World} {r : Reach} {base base' : Nat} {spare : Nat → Bool} {held : Bool}
end
end Go.Proofs.YtlljedijldkcbaaDoor
namespace Go.Proofs.YtlljedijldkcbaaDoor
open Go.RowKit
section
variable {P : Program} {ops : Array Oper} {rest : List Oper} {a : Act} {w0 w w' : World} {Q : Exit → Act → World → Prop} {n : Nat} {l : Slots} {L O : Blks} {S : Nat → Prop} {R : List Row}
theorem aev_alloc {o : Oper} {T : TypeId} {r : Res} {cs : List Prop} (ho : o.op = .alloc T) (h : aev P l L o_ o = some (r, cs)) : ∃ ob, r = rp ob ∧ cs = [] := by
  unfold aev o_ at h
  simp only [ho] at h
  split at h <;> first | (cases h; done) | skip
  split at h <;> first | (cases h; done) | skip
  simp only [Option.some.injEq, Prod.mk.injEq] at h
  exact ⟨_, h.1.symm, h.2.symm⟩
/-- A new cell, as a letter: its block is the letter's. -/
def cellMk (v : Value) : Value := .pointer (some ⟨gOf (pOf v), 0, none⟩)
def CellC (base : Nat) (w : World) (v : Value) (ob : Obj) : Prop := base ≤ gOf (pOf v) ∧ w.heap[gOf (pOf v)]? = some ob
theorem cellC_st (base : Nat) (ob : Obj) : ∀ (v : Value) (w w' : World), CellC base w v ob → Below w.heap.size w w' → CellC base w' v ob := fun _ _ _ ⟨h1, h2⟩ hb => ⟨h1, (hb.block _ (lt_of_block h2)).trans h2⟩
theorem pOp_alloc {specs : List Spec} {x : Nat → Value} {lo : Slots} {o : Oper} {T : TypeId} {p : Pr} {c : Prop} (ho : o.op = .alloc T) (hp : pOp P ops.toList specs x w lo L o (.inr (cellMk, p)) (some o_) = some c) (hc : c) (hd : ∀ j ∈ depsOf o, ∀ mk p, specs[j]? = some (.inr (mk, p)) → p (x j) w)
    (hlk : ∀ t v, look t (pSlots ops.toList specs x (depsOf o) ++ lo) = some v → a.tmps[t]? = some v) (H : Has w L) :
    Region.wanted o (yielded ops a.tmps) = true ∧ ∀ (next : Act → World → Prop) (Q : Exit → Act → World → Prop), (∀ w', Below w.heap.size w w' → sat (.inr (cellMk, p)) (.pointer (some ⟨w.heap.size, 0, none⟩)) w' → next (a.put o.dst (.pointer (some ⟨w.heap.size, 0, none⟩))) w') → o.wp P a w next Q := by
  have A : Agr a.eval (pSlots ops.toList specs x (depsOf o) ++ lo) := fun x v h => by
    cases x with
    | tmp t => exact eval_tmp (hlk t v h)
    | const u => exact Option.some.inj h
    | func f => exact Option.some.inj h
    | global g => exact Option.some.inj h
  unfold pOp at hp
  split at hp <;> first | (cases hp; done) | skip
  rename_i hw
  refine ⟨wanted_iff hw hlk, fun next Q hK => ?_⟩
  simp only at hp
  split at hp <;> first | (cases hp; done) | skip
  rename_i r cs hr
  obtain ⟨ob, rfl, rfl⟩ := aev_alloc ho hr
  simp only [rp] at hp
  obtain rfl := Option.some.inj hp
  obtain ⟨h1, h2⟩ := allC_iff.1 (pHyp_elim _ hc hd)
  refine aev_ok A H hr (fun c hc => (nomatch hc)) _ _ fun b w' q => ?_
  obtain ⟨hb, hob⟩ := q.fresh ob rfl
  have hB : Below w.heap.size w w' := ⟨q.os, q.tape, q.output, q.size, fun k hk => q.block k hk (fun u hu' => (nomatch hu'))⟩
  subst hb
  obtain ⟨y, h3, h4⟩ := h2 w' hB hob
  exact hK _ hB ⟨y, h3, h4⟩
def FsN (ops : List Oper) (specs : List Spec) (hs : List (Option Hint)) : List Nat → Prop
  | [] => True
  | i :: r => (∃ o T p, ops[i]? = some o ∧ o.op = .alloc T ∧ hs[i]? = some (some o_) ∧ specs[i]? = some (.inr (cellMk, p)) ∧ ∀ x w, p x w → gOf (pOf x) < w.heap.size) ∧ FsN ops specs hs r
theorem FsN.get {os : List Oper} {specs : List Spec} {hs : List (Option Hint)} : ∀ {fs : List Nat}, FsN os specs hs fs → ∀ i ∈ fs, ∃ o T p, os[i]? = some o ∧ o.op = .alloc T ∧ hs[i]? = some (some o_) ∧ specs[i]? = some (.inr (cellMk, p)) ∧ ∀ x w, p x w → gOf (pOf x) < w.heap.size
  | [], _, i, h => by cases h
  | j :: r, ⟨h1, h2⟩, i, h => by
    rcases List.mem_cons.1 h with rfl | h
    · exact h1
    · exact FsN.get h2 i h
theorem pres_get2 {os : List Oper} {specs : List Spec} {x : Nat → Value} {lo : Slots} : ∀ (pre : List Oper) (ss : List Spec) (hs : List (Option Hint)) (cs : List Prop), pres P os specs x w lo L pre ss hs = some cs → (∀ c ∈ cs, c) →
    ∀ (i : Nat) (o : Oper) (s : Spec) (h : Option Hint), pre[i]? = some o → ss[i]? = some s → hs[i]? = some h → ∃ c, pOp P os specs x w lo L o s h = some c ∧ c
  | [], _, _, _, _, _, i, o, s, h, hi, _, _ => by simp at hi
  | _ :: _, [], _, _, h, _, _, _, _, _, _, _, _ => by cases h
  | _ :: _, _ :: _, [], _, h, _, _, _, _, _, _, _, _ => by cases h
  | y :: r, t :: ss, h :: hs, cs, hp, hc, i, o, s, h', ho, hs', hh => by
    simp only [pres] at hp
    split at hp <;> first | (cases hp; done) | skip
    rename_i cs1 c1 h1 h2
    obtain rfl := Option.some.inj hp
    cases i with
    | zero =>
      simp at ho hs' hh
      subst ho hs' hh
      exact ⟨c1, h2, hc c1 (by simp)⟩
    | succ j => exact pres_get2 r ss hs cs1 h1 (fun c hc' => hc c (by simp [hc'])) j o s h' (by simpa using ho) (by simpa using hs') (by simpa using hh)
theorem valsP_get : ∀ (specs : List Spec) (x : Nat → Value) (k i : Nat) (s : Spec), specs[i]? = some s → (valsP specs x k)[i]? = some (sval s (x (k + i)))
  | [], _, _, i, s, h => by simp at h
  | t :: r, x, k, 0, s, h => by simp at h; subst h; rfl
  | t :: r, x, k, i + 1, s, h => by
    have := valsP_get r x (k + 1) i s (by simpa using h)
    rw [show k + (i + 1) = k + 1 + i by omega]
    simpa [valsP] using this
/-- **A region that draws its order, with values that are told by what they hold, and new cells, which are apart.** -/
theorem rg_predF {id : Nat} (fs : List Nat) (F : Fr n a l) (M : MemS S w0 w L R) (specs : List Spec) (hs : List (Option Hint)) (out : List Nat) (C : (Nat → Value) → World → List Prop) (lo : (Nat → Value) → Slots)
    (hm : P.follows .mixedOrders = true) (hG : goodB ops.toList specs.length n = true) (hd : dstsB n ops.toList = true) (hF : FsN ops.toList specs hs fs) (hst : stAll specs)
    (h1 : ∀ x w, pres P ops.toList specs x w (dropS (dstsOf (ops.toList.take specs.length)) l) L (ops.toList.take specs.length) specs hs = some (C x w))
    (h2 : ∀ x, keepS out (pairsOf (ops.toList.take specs.length) (valsP specs x 0) l) = lo x)
    (c : ∀ x w', Below w.heap.size w w' → Has w' L → allC (C x w') True)
    (K : ∀ x a' w', sokAll x w' specs 0 → (∀ i j, i ∈ fs → j ∈ fs → i ≠ j → gOf (pOf (x i)) ≠ gOf (pOf (x j))) → Below w.heap.size w w' → Fr n a' (lo x) → MemS S w0 w' L R → wpList P ops Q (ops.toList.drop specs.length) a' w') : (Code.region id ops true).wp P Q a w := by
  have hdst := good_dst (good_of hG).own
  have B0 : Below w.heap.size w { w with drawn := w.drawn + 1 } := ⟨rfl, rfl, rfl, Nat.le_refl _, fun _ _ => rfl⟩
  have hlen : ∀ {i : Nat} {s : Spec}, specs[i]? = some s → i < specs.length := fun {i s} h => by
    rcases Nat.lt_or_ge i specs.length with h' | h'
    · exact h'
    · rw [List.getElem?_eq_none h'] at h; cases h
  refine region_free specs.length (C := fun w' => Below w.heap.size w w') (specP specs) (fun i => fs.contains i) hm (by rw [F.size]; exact hG) B0 (fun w1 w2 h h' => h.trans (h'.mono h.size)) (fun i v w1 w2 h h' => ?_) (fun i v w hf h => ?_) (fun i o hi ho a' w' hC hk hD => ?_) (fun vs w' hlen' hC hR hN => ?_)
  · unfold specP at *
    cases hs : specs[i]? with
    | none => trivial
    | some s => simp only [hs] at h; exact sat_up (stAll_get _ hst i s hs) h h'
  · obtain ⟨o, T, p, _, _, _, q4, q5⟩ := hF.get i (by simpa using hf)
    unfold specP at h
    simp only [q4] at h
    obtain ⟨x, rfl, hx⟩ := h
    exact ⟨_, rfl, q5 _ _ hx⟩
  · by_cases hfi : fs.contains i = true
    · obtain ⟨o2, T, p, q1, q2, q3, q4, q5⟩ := hF.get i (by simpa using hfi)
      obtain rfl : o2 = o := Option.some.inj (q1.symm.trans (by simpa using ho))
      obtain ⟨x, hx⟩ := dep_letters hD
      have H : Has w' L := fun k y hy => keep hC (M.hasL k y hy)
      have hcs := (allC_iff.1 (c x w' hC H)).1
      have ho' : (ops.toList.take specs.length)[i]? = some o2 := by rw [List.getElem?_take, if_pos hi]; exact q1
      obtain ⟨cc, hp, hcc⟩ := pres_get2 _ _ _ _ (h1 x w') hcs i o2 _ _ ho' q4 q3
      obtain ⟨hw, hr⟩ := pOp_alloc (a := a') q2 hp hcc (fun j hj mk p hsj => by
        cases hjo : (ops[j]?).bind (·.dst) with
        | some d => exact (hx j hj d _ hjo hsj).2
        | none => exact (hdst j (hlen hsj) hjo).elim) (pred_lk F hx hk) H
      refine .inl ⟨hw, hr _ _ fun w'' hB hsat => ⟨_, rfl, hB, ?_, fun _ => rfl⟩⟩
      unfold specP
      simp only [q4]
      exact hsat
    · rcases pred_step hdst F M.hasL hst h1 c hi ho hC hk hD with ⟨hw, hr⟩ | ⟨hw, hu⟩
      · exact .inl ⟨hw, hr _ _ fun v w'' hB hsp => ⟨v, rfl, hB, hsp, fun h => (hfi h).elim⟩⟩
      · exact .inr ⟨hw, hu, by simpa using hfi⟩
  · obtain ⟨x, rfl, hx⟩ := vals_letters specs vs 0 hlen' fun i v s hv hs => by have := hR i v hv; unfold specP at this; simpa only [hs] using this
    have hd1 : dstsB n (ops.toList.take specs.length) = true := by
      unfold dstsB at hd ⊢
      rw [List.all_eq_true] at hd ⊢
      exact fun o ho => hd o (List.mem_of_mem_take ho)
    refine K x _ w' hx (fun i j hi hj hij e => ?_) hC (h2 x ▸ (Fr.putAll (ops.toList.take specs.length) (valsP specs x 0) a l F hd1).keepS out) (M.keep hC)
    obtain ⟨_, _, p, _, _, _, q4, _⟩ := hF.get i hi
    obtain ⟨_, _, p', _, _, _, r4, _⟩ := hF.get j hj
    refine hN i j hij (by simpa using hi) (by simpa using hj) (hlen q4) (hlen r4) ?_
    rw [valsP_get specs x 0 i _ q4, valsP_get specs x 0 j _ r4]
    simp only [sval, cellMk, Nat.zero_add, e]
theorem MemS.addFreshC {Cs : Blks} {g : Nat} {ob : Obj} (M : MemS S w0 w L R) (M' : MemS S w0 w' (Cs ++ L) R) (hb : w'.heap[g]? = some ob) (hg : w.heap.size ≤ g) (hC : ∀ x ∈ Cs, x.1 ≠ g) : MemS S w0 w' ((g, ob) :: (Cs ++ L)) R :=
  M'.addBlk hb (fun x hx => by
    rcases List.mem_append.1 hx with hx | hx
    · exact hC x hx
    · have := lt_of_block (Has.mem M.hasL hx); omega) (fun hs => by have := M.old g hs; have := M.size; omega) (fun r hr g' hg' => by have := (ownsRow_lt (M.rows r hr) hg').2; omega)
theorem ne_nil {g : Nat} : ∀ x ∈ ([] : Blks), x.1 ≠ g := fun _ hx => (nomatch hx)
theorem ne_cons {b g : Nat} {ob : Obj} {Cs : Blks} (h : b ≠ g) (hC : ∀ x ∈ Cs, x.1 ≠ g) : ∀ x ∈ (b, ob) :: Cs, x.1 ≠ g := fun x hx => by
  rcases List.mem_cons.1 hx with rfl | hx
  · exact h
  · exact hC x hx
/-- Cells that no number lies in. -/
def NoNat (Cs : Blks) : Prop := ∀ x ∈ Cs, ∃ cs T fr, x.2 = .cells cs T fr ∧ ∀ d, cs[0]? ≠ some (.int .u64 d)
theorem NoNat.nil : NoNat [] := fun _ hx => (nomatch hx)
theorem NoNat.cons {Cs : Blks} {g : Nat} {cs : Array Value} {T : TypeId} {fr : Nat × Nat} (h : NoNat Cs) (hc : ∀ d, cs[0]? ≠ some (.int .u64 d)) : NoNat ((g, .cells cs T fr) :: Cs) := fun x hx => by
  rcases List.mem_cons.1 hx with rfl | hx
  · exact ⟨cs, T, fr, rfl, hc⟩
  · exact h x hx
theorem nat_cell0 {v : Value} {N g : Nat} (h : NatIn w v N) (hg : v.ownBlock = some g) : ∃ cs T fr d, w.heap[g]? = some (.cells cs T fr) ∧ cs[0]? = some (.int .u64 d) := by
  obtain ⟨p, c, rfl, q1, q2, q3, q4⟩ := h
  have hN0 : N ≠ 0 := fun e => by rw [(q1 e).1] at hg; cases hg
  have h0 : 0 < qsz N := qsz_pos hN0
  rcases q4 with q4 | ⟨b, cs, T', fr, rfl, q5, q6⟩
  · omega
  · have e : b = g := by simpa [Value.ownBlock] using hg
    subst e
    exact ⟨cs, T', fr, _, q5, q6 0 h0⟩
/-- A number that was made in a region, behind cells that were made there, and other numbers. -/
theorem MemS.addNatC {Cs K O1 : Blks} {v : Value} {N : Nat} {ns : List (Value × Nat)} (M : MemS S w0 w (K ++ O) R) (M' : MemS S w0 w' (Cs ++ (K ++ O1)) R) (hC : NoNat Cs) (hn : NatNew w.heap.size w' v N) (hN : Nats O1 ns) : ∃ O', MemS S w0 w' (Cs ++ (K ++ O')) R ∧ Nats O' ((v, N) :: ns) ∧ ∀ x ∈ O1, x ∈ O' := by
  by_cases hb : ∃ g, v.ownBlock = some g ∧ ∃ x ∈ O1, x.1 = g
  · obtain ⟨g, hg, x, hx, rfl⟩ := hb
    have hx' : w'.heap[x.1]? = some x.2 := Has.mem M'.hasL (by simp [hx])
    refine ⟨O1, M', .cons ?_ hN, fun _ h => h⟩
    obtain ⟨p, c, rfl, q1, q2, q3, q4⟩ := hn.1
    refine ⟨p, c, rfl, q1, q2, q3, ?_⟩
    rcases q4 with q4 | ⟨b, cs, T, fr, rfl, q5, q6⟩
    · exact .inl q4
    · have e : b = x.1 := by simpa [Value.ownBlock] using hg
      subst e
      rw [hx'] at q5
      have q5 := Option.some.inj q5
      exact .inr ⟨x.1, cs, T, fr, rfl, by rw [← q5]; exact hx, q6⟩
  · have h := MemS.addNat (K := Cs ++ K) (O := O1) (by rw [List.append_assoc]; exact M') hn.1 (fun g hg x hx => ?_) (fun g hg hs => by have := M.old g hs; have := M.size; have := hn.2 g hg; omega) (fun g hg r hr g' hg' => by have := (ownsRow_lt (M.rows r hr) hg').2; have := hn.2 g hg; omega)
    · obtain ⟨O', h1, h2, h3⟩ := h
      exact ⟨O', by rw [List.append_assoc] at h1; exact h1, .cons h2 (hN.mono h3), h3⟩
    · rcases List.mem_append.1 hx with hx | hx
      · rcases List.mem_append.1 hx with hx | hx
        · rintro rfl
          obtain ⟨cs, T, fr, e, hd⟩ := hC x hx
          have hx' : w'.heap[x.1]? = some x.2 := Has.mem M'.hasL (by simp [hx])
          obtain ⟨cs', T', fr', d, q1, q2⟩ := nat_cell0 hn.1 hg
          rw [hx', e] at q1
          simp only [Option.some.injEq, Obj.cells.injEq] at q1
          exact hd d (by rw [q1.1]; exact q2)
        · have := lt_of_block (Has.mem M.hasL (show x ∈ K ++ O by simp [hx]))
          have := hn.2 g hg
          omega
      · exact fun e => hb ⟨g, hg, x, hx, e⟩
end
end Go.Proofs.YtlljedijldkcbaaDoor
