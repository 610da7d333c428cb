/- The ladder over plain numbers; its step and its change of places, walked. -/
import Derived.Test.YtfciodbgjljjhaaC1
import Derived.Test.YtfciodbgjljjhaaC2
namespace Go.Proofs.Ytfciodbgjljjhaa
open Go.RowKit

/-! ### The ladder over plain numbers -/
def aN (x y : Nat) : Nat := (x + y) % pN
def sN (x y : Nat) : Nat := (x + (pN - y)) % pN
def mN (x y : Nat) : Nat := x * y % pN
structure Lad where
  x2 : Nat
  z2 : Nat
  x3 : Nat
  z3 : Nat
def Lad.ok (l : Lad) : Prop := l.x2 < pN ∧ l.z2 < pN ∧ l.x3 < pN ∧ l.z3 < pN
def lA (l : Lad) : Nat := aN l.x2 l.z2
def lB (l : Lad) : Nat := sN l.x2 l.z2
def lAA (l : Lad) : Nat := mN (lA l) (lA l)
def lBB (l : Lad) : Nat := mN (lB l) (lB l)
def lE (l : Lad) : Nat := sN (lAA l) (lBB l)
def lDA (l : Lad) : Nat := mN (sN l.x3 l.z3) (lA l)
def lCB (l : Lad) : Nat := mN (aN l.x3 l.z3) (lB l)
def lS (l : Lad) : Nat := aN (lDA l) (lCB l)
def lL (l : Lad) : Nat := sN (lDA l) (lCB l)
def Lad.step (u : Nat) (l : Lad) : Lad := ⟨mN (lAA l) (lBB l), mN (lE l) (aN (lAA l) (mN 121665 (lE l))), mN (lS l) (lS l), mN (mN u (lL l)) (lL l)⟩
def Lad.swap (n : Nat) (l : Lad) : Lad := if n = 1 then ⟨l.x3, l.z3, l.x2, l.z2⟩ else l
def bitAt (ks : List Nat) (i : Nat) : Nat := ks.getD (i / 8) 0 / 2 ^ (i % 8) % 2
def ladTo (ks : List Nat) (u : Nat) : Nat → Lad
  | 0 => ⟨1, 0, u, 1⟩
  | j + 1 => (((ladTo ks u j).swap (bitAt ks (254 - j))).step u).swap (bitAt ks (254 - j))
/-- What comes of the ladder. -/
def curveN (ks us : List Nat) : Nat := mN (ladTo (scal ks) (numOf us % pN) 255).x2 (invTo (ladTo (scal ks) (numOf us % pN) 255).z2 255)
theorem mN_lt (x y : Nat) : mN x y < pN := Nat.mod_lt _ (by decide)
theorem aN_lt (x y : Nat) : aN x y < pN := Nat.mod_lt _ (by decide)
theorem sN_lt (x y : Nat) : sN x y < pN := Nat.mod_lt _ (by decide)
theorem step_ok (u : Nat) (l : Lad) : (l.step u).ok := ⟨mN_lt _ _, mN_lt _ _, mN_lt _ _, mN_lt _ _⟩
theorem swap_ok {n : Nat} {l : Lad} (h : l.ok) : (l.swap n).ok := by
  unfold Lad.swap
  split
  · exact ⟨h.2.2.1, h.2.2.2, h.1, h.2.1⟩
  · exact h
theorem ladTo_ok (ks : List Nat) (u : Nat) (hu : u < pN) : ∀ j, (ladTo ks u j).ok
  | 0 => ⟨(by decide : 1 < pN), (by decide : 0 < pN), hu, (by decide : 1 < pN)⟩
  | _ + 1 => swap_ok (step_ok _ _)
theorem bitAt_le (ks : List Nat) (i : Nat) : bitAt ks i ≤ 1 := by unfold bitAt; omega

abbrev L40 (a c d : Nat) : Array Value := #[.int .u64 (w0 a), .int .u64 (w1 a), .int .u64 (w2 a), .int .u64 (w3 a), .int .u64 0, .int .u64 0, .int .u64 0, .int .u64 0, .int .u64 (w0 c), .int .u64 (w1 c), .int .u64 (w2 c), .int .u64 (w3 c), .int .u64 (w0 d), .int .u64 (w1 d), .int .u64 (w2 d), .int .u64 (w3 d)]
abbrev LC (l : Lad) : Array Value := L4 l.x2 l.z2 l.x3 l.z3
theorem L40_start (ks : List Nat) (u : Nat) : L40 1 u 1 = LC (ladTo ks u 0) := by simp [ladTo, w0, w1, w2, w3]
theorem step_any (u : Nat) (l : Lad) (hu : u < pN) (h : l.ok) (w : World) : Calls Try.prog 19 #[.agg (LC l), E4 u] w fun e w' => e = .returned (.agg (LC (l.step u))) ∧ Below w.heap.size w w' := by
  refine step_raw l.x2 l.z2 l.x3 l.z3 u (lA l) (lB l) (lAA l) (lBB l) (lE l) (sN l.x3 l.z3) (lDA l) (aN l.x3 l.z3) (lCB l) (lS l) (lL l) (mN (lAA l) (lBB l)) (mN 121665 (lE l)) (aN (lAA l) (mN 121665 (lE l))) _ _ _ h.1 h.2.1 h.2.2.1 h.2.2.2 hu
    (aN_lt _ _) (sN_lt _ _) (mN_lt _ _) (mN_lt _ _) (sN_lt _ _) (sN_lt _ _) (mN_lt _ _) (aN_lt _ _) (mN_lt _ _) (aN_lt _ _) (sN_lt _ _) (mN_lt _ _) (aN_lt _ _) rfl rfl rfl rfl rfl rfl rfl rfl rfl rfl rfl rfl rfl rfl rfl rfl rfl w
theorem swapped_any (l : Lad) (n : Nat) (hn : n ≤ 1) (w : World) : Calls Try.prog 18 #[.agg (LC l), .int .i64 (n : Nat)] w fun e w' => e = .returned (.agg (LC (l.swap n))) ∧ Below w.heap.size w w' := by
  have e : ∀ x y : Nat, (if ((n : Nat) : Int) = 1 then x else y) = (if n = 1 then x else y) := fun x y => by
    by_cases h : n = 1
    · subst h; simp
    · rw [if_neg h, if_neg (by omega)]
  refine swapped_raw l.x2 l.z2 l.x3 l.z3 (n : Nat) (l.swap n).x2 (l.swap n).z2 (l.swap n).x3 (l.swap n).z3 (by omega) (by omega) ?_ ?_ ?_ ?_ w <;> (rw [e]; unfold Lad.swap; split <;> rfl)

end Go.Proofs.Ytfciodbgjljjhaa
