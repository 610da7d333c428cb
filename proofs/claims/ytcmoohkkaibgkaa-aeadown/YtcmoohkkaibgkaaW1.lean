/- The walks of the words' turns, of the quarter round, of a word of four bytes. -/
import Derived.Test.YtcmoohkkaibgkaaRows
import Derived.Test.YtcmoohkkaibgkaaNum
import Derived.Test.YtcmoohkkaibgkaaMem
import Derived.WalkKit
import Derived.WalkSpells
import Derived.WalkLawsBesides
import Derived.Laws.BitsAllLaws
import Derived.Deep.QuietTactic
import Derived.BigQuiet
import Derived.Deep.Cut
namespace Go.Proofs.Ytcmoohkkaibgkaa
open Go.RowKit

theorem ret_int {k : IntKind} {a b : Int} (h : a = b) : Ending.returned (.int k a) = .returned (.int k b) := by rw [h]
theorem orI (m d x : Nat) (hx : x < 4294967296) : bits .or .u32 ((x : Int) * (m : Int) % 4294967296) ((x : Int) / (d : Int)) = ((rN m d x : Nat) : Int) := by
  have e1 : (x : Int) * (m : Int) % 4294967296 = ((x * m % 4294967296 : Nat) : Int) := by
    rw [Int.natCast_emod, Int.natCast_mul]; rfl
  have e2 : (x : Int) / (d : Int) = ((x / d : Nat) : Int) := (Int.natCast_ediv x d).symm
  rw [e1, e2, u32_or_nat _ _ (Nat.mod_lt _ (by decide)) (Nat.lt_of_le_of_lt (Nat.div_le_self _ _) hx)]
  rfl

set_option maxHeartbeats 1000000 in
theorem rot16 (x : Nat) (hx : x < 4294967296) (w : World) :
    Calls Try.prog 51 #[.int .u32 x, .int .i64 16] w fun e w' => e = .returned (.int .u32 (rN 65536 65536 x : Nat)) ∧ w' = w := by
  have hs : bits BinOp.and .u64 16 31 = 16 := by decide +kernel
  have HO : Hid _ := orI 65536 65536 x hx
  clear hx
  go_enter Try.func51, Try.ntmps51
  go_wp2
  go_ret
  exact ⟨ret_int HO.out, rfl⟩
set_option maxHeartbeats 1000000 in
theorem left16 (x : Nat) (hx : x < 4294967296) (w : World) :
    Calls Try.prog 48 #[.int .u32 x, .int .u32 16] w fun e w' => e = .returned (.int .u32 (rN 65536 65536 x : Nat)) ∧ w' = w := by
  have HO : Hid _ := orI 65536 65536 x hx
  clear hx
  go_enter Try.func48, Try.ntmps48
  go_wp2
  go_ret
  exact ⟨ret_int HO.out, rfl⟩

set_option maxHeartbeats 1000000 in
theorem rot12 (x : Nat) (hx : x < 4294967296) (w : World) :
    Calls Try.prog 51 #[.int .u32 x, .int .i64 12] w fun e w' => e = .returned (.int .u32 (rN 4096 1048576 x : Nat)) ∧ w' = w := by
  have hs : bits BinOp.and .u64 12 31 = 12 := by decide +kernel
  have HO : Hid _ := orI 4096 1048576 x hx
  clear hx
  go_enter Try.func51, Try.ntmps51
  go_wp2
  go_ret
  exact ⟨ret_int HO.out, rfl⟩
set_option maxHeartbeats 1000000 in
theorem left12 (x : Nat) (hx : x < 4294967296) (w : World) :
    Calls Try.prog 48 #[.int .u32 x, .int .u32 12] w fun e w' => e = .returned (.int .u32 (rN 4096 1048576 x : Nat)) ∧ w' = w := by
  have HO : Hid _ := orI 4096 1048576 x hx
  clear hx
  go_enter Try.func48, Try.ntmps48
  go_wp2
  go_ret
  exact ⟨ret_int HO.out, rfl⟩

set_option maxHeartbeats 1000000 in
theorem rot8 (x : Nat) (hx : x < 4294967296) (w : World) :
    Calls Try.prog 51 #[.int .u32 x, .int .i64 8] w fun e w' => e = .returned (.int .u32 (rN 256 16777216 x : Nat)) ∧ w' = w := by
  have hs : bits BinOp.and .u64 8 31 = 8 := by decide +kernel
  have HO : Hid _ := orI 256 16777216 x hx
  clear hx
  go_enter Try.func51, Try.ntmps51
  go_wp2
  go_ret
  exact ⟨ret_int HO.out, rfl⟩
set_option maxHeartbeats 1000000 in
theorem left8 (x : Nat) (hx : x < 4294967296) (w : World) :
    Calls Try.prog 48 #[.int .u32 x, .int .u32 8] w fun e w' => e = .returned (.int .u32 (rN 256 16777216 x : Nat)) ∧ w' = w := by
  have HO : Hid _ := orI 256 16777216 x hx
  clear hx
  go_enter Try.func48, Try.ntmps48
  go_wp2
  go_ret
  exact ⟨ret_int HO.out, rfl⟩

set_option maxHeartbeats 1000000 in
theorem rot7 (x : Nat) (hx : x < 4294967296) (w : World) :
    Calls Try.prog 51 #[.int .u32 x, .int .i64 7] w fun e w' => e = .returned (.int .u32 (rN 128 33554432 x : Nat)) ∧ w' = w := by
  have hs : bits BinOp.and .u64 7 31 = 7 := by decide +kernel
  have HO : Hid _ := orI 128 33554432 x hx
  clear hx
  go_enter Try.func51, Try.ntmps51
  go_wp2
  go_ret
  exact ⟨ret_int HO.out, rfl⟩
set_option maxHeartbeats 1000000 in
theorem left7 (x : Nat) (hx : x < 4294967296) (w : World) :
    Calls Try.prog 48 #[.int .u32 x, .int .u32 7] w fun e w' => e = .returned (.int .u32 (rN 128 33554432 x : Nat)) ∧ w' = w := by
  have HO : Hid _ := orI 128 33554432 x hx
  clear hx
  go_enter Try.func48, Try.ntmps48
  go_wp2
  go_ret
  exact ⟨ret_int HO.out, rfl⟩

set_option maxHeartbeats 1000000 in
theorem quarter_raw (a b c d a1 x1 d1 c1 x2 b1 a2 x3 d2 c2 x4 b2 : Nat) (w : World)
    (h1 : ((a : Int) + b) % 4294967296 = a1) (h2 : bits .xor .u32 (d : Int) a1 = x1) (h3 : ((c : Int) + d1) % 4294967296 = c1) (h4 : bits .xor .u32 (b : Int) c1 = x2)
    (h5 : ((a1 : Int) + b1) % 4294967296 = a2) (h6 : bits .xor .u32 (d1 : Int) a2 = x3) (h7 : ((c1 : Int) + d2) % 4294967296 = c2) (h8 : bits .xor .u32 (b1 : Int) c2 = x4)
    (k1 : ∀ w, Calls Try.prog 51 #[.int .u32 x1, .int .i64 16] w fun e w' => e = .returned (.int .u32 d1) ∧ w' = w) (k2 : ∀ w, Calls Try.prog 51 #[.int .u32 x2, .int .i64 12] w fun e w' => e = .returned (.int .u32 b1) ∧ w' = w)
    (k3 : ∀ w, Calls Try.prog 51 #[.int .u32 x3, .int .i64 8] w fun e w' => e = .returned (.int .u32 d2) ∧ w' = w) (k4 : ∀ w, Calls Try.prog 51 #[.int .u32 x4, .int .i64 7] w fun e w' => e = .returned (.int .u32 b2) ∧ w' = w) :
    Calls Try.prog 47 #[.int .u32 a, .int .u32 b, .int .u32 c, .int .u32 d] w fun e w' => e = .returned (.tuple #[.int .u32 a2, .int .u32 b2, .int .u32 c2, .int .u32 d2]) ∧ w' = w := by
  go_enter Try.func47, Try.ntmps47
  go_wp2_with fail
  refine (k1 _).mono ?_
  rintro e w' ⟨rfl, rfl⟩
  go_wp2_with fail
  refine (k2 _).mono ?_
  rintro e w' ⟨rfl, rfl⟩
  go_wp2_with fail
  refine (k3 _).mono ?_
  rintro e w' ⟨rfl, rfl⟩
  go_wp2_with fail
  refine (k4 _).mono ?_
  rintro e w' ⟨rfl, rfl⟩
  go_wp2_with fail
  exact bodyPost_ret (v := .tuple #[.int .u32 a2, .int .u32 b2, .int .u32 c2, .int .u32 d2]) (by simp [results, Try.results47, go_sem]) rfl ⟨rfl, rfl⟩

theorem sumI (a b : Nat) : ((a : Int) + b) % 4294967296 = ((a + b) % 4294967296 : Nat) := by omega
theorem quarter_any (a b c d : Nat) (hb : b < 4294967296) (hd : d < 4294967296) (w : World) :
    Calls Try.prog 47 #[.int .u32 a, .int .u32 b, .int .u32 c, .int .u32 d] w fun e w' => e = .returned (.tuple #[.int .u32 (q4 a b c d).a, .int .u32 (q4 a b c d).b, .int .u32 (q4 a b c d).c, .int .u32 (q4 a b c d).d]) ∧ Below w.heap.size w w' := by
  have m : ∀ x, x % 4294967296 < 4294967296 := fun x => Nat.mod_lt _ (by decide)
  have l1 := xor_lt hd (m (a + b))
  have l2 := rN_lt 65536 65536 _ l1
  have l3 := xor_lt hb (m (c + rN 65536 65536 (d ^^^ (a + b) % 4294967296)))
  have l4 := rN_lt 4096 1048576 _ l3
  refine (quarter_raw a b c d _ _ _ _ _ _ _ _ _ _ _ _ w (sumI a b) (u32_xor_nat _ _ hd (m _)) (sumI _ _) (u32_xor_nat _ _ hb (m _)) (sumI _ _) (u32_xor_nat _ _ l2 (m _)) (sumI _ _) (u32_xor_nat _ _ l4 (m _))
    (rot16 _ l1) (rot12 _ l3) (rot8 _ (xor_lt l2 (m _))) (rot7 _ (xor_lt l4 (m _)))).mono ?_
  rintro e w' ⟨rfl, rfl⟩
  exact ⟨rfl, Below.refl _ _⟩

theorem orWd (a b c d : Nat) (ha : a < 256) (hb : b < 256) (hc : c < 256) (hd : d < 256) :
    bits .or .u32 (bits .or .u32 (bits .or .u32 (a : Int) ((b : Int) * 256)) ((c : Int) * 65536)) ((d : Int) * 16777216) = ((wd a b c d : Nat) : Int) := by
  have e1 : (b : Int) * 256 = ((b * 256 : Nat) : Int) := by omega
  have e2 : (c : Int) * 65536 = ((c * 65536 : Nat) : Int) := by omega
  have e3 : (d : Int) * 16777216 = ((d * 16777216 : Nat) : Int) := by omega
  have o1 : a ||| b * 256 < 4294967296 := Nat.or_lt_two_pow (n := 32) (by omega) (by omega)
  have o2 : (a ||| b * 256) ||| c * 65536 < 4294967296 := Nat.or_lt_two_pow (n := 32) o1 (by omega)
  rw [e1, e2, e3, u32_or_nat _ _ (by omega) (by omega), u32_or_nat _ _ o1 (by omega), u32_or_nat _ _ o2 (by omega), or_wd ha hb hc]
set_option maxHeartbeats 1000000 in
theorem cword_any (a b c d : Nat) (ha : a < 256) (hb : b < 256) (hc : c < 256) (hd : d < 256) (w : World) :
    Calls Try.prog 36 #[.agg #[.int .u8 a, .int .u8 b, .int .u8 c, .int .u8 d]] w fun e w' => e = .returned (.int .u32 (wd a b c d)) ∧ Below w.heap.size w w' := by
  have HO : Hid _ := orWd a b c d ha hb hc hd
  go_enter Try.func36, Try.ntmps36
  go_wp2
  go_ret
  exact ⟨ret_int HO.out, (Below.refl _ _).alloc (Nat.le_refl _) _⟩
set_option maxHeartbeats 1000000 in
theorem four_raw (s : ByteArray) (hs : s.size = 4) (a b c d : Nat) (h0 : s[0].toNat = a) (h1 : s[1].toNat = b) (h2 : s[2].toNat = c) (h3 : s[3].toNat = d) (w : World) :
    Calls Try.prog 38 #[.string s] w fun e w' => e = .returned (.int .u32 (wd a b c d)) ∧ Below w.heap.size w w' := by
  have ha : a < 256 := h0 ▸ UInt8.toNat_lt _
  have hb : b < 256 := h1 ▸ UInt8.toNat_lt _
  have hc : c < 256 := h2 ▸ UInt8.toNat_lt _
  have hd : d < 256 := h3 ▸ UInt8.toNat_lt _
  have HO : Hid _ := orWd a b c d ha hb hc hd
  go_enter Try.func38, Try.ntmps38
  go_wp2
  go_quiet (fail)
  go_wp2
  go_ret
  exact ⟨ret_int HO.out, rfl, rfl, rfl, Nat.le_refl _, fun _ _ => rfl⟩
end Go.Proofs.Ytcmoohkkaibgkaa
