/- Of of the document's answer of layer 1: the number of a key. -/
import Derived.Test.YtpgmaidbemndnaaRef7
namespace Go.Proofs.Ytpgmaidbemndnaa
open Go.RowKit

theorem top_cut (lo t : Nat) (h : lo < 281474976710656) : (lo + t * 281474976710656) % 9223372036854775808 = lo + (t % 32768) * 281474976710656 := by omega
theorem psum_kd (ks : List Nat) (h : Bytes ks) : psum (kd' ks) 16 = numOf ks := by
  have h24 := h.2 24
  have h25 := h.2 25
  have h26 := h.2 26
  have h27 := h.2 27
  have h28 := h.2 28
  have h29 := h.2 29
  have e := top_cut (ks.getD 24 0 + ks.getD 25 0 * 256 + ks.getD 26 0 * 65536 + ks.getD 27 0 * 16777216 + ks.getD 28 0 * 4294967296 + ks.getD 29 0 * 1099511627776) (ks.getD 30 0 + ks.getD 31 0 * 256) (by omega)
  have e2 : wordTo ks 24 8 % 9223372036854775808 = (ks.getD 24 0 + ks.getD 25 0 * 256 + ks.getD 26 0 * 65536 + ks.getD 27 0 * 16777216 + ks.getD 28 0 * 4294967296 + ks.getD 29 0 * 1099511627776) + ((ks.getD 30 0 + ks.getD 31 0 * 256) % 32768) * 281474976710656 := by
    rw [← e]
    congr 1
    simp only [wordTo, Nat.reducePow, Nat.reduceAdd, Nat.add_zero]
    omega
  unfold numOf
  rw [e2]
  simp only [psum, kd', kd, wordTo, mk4, Nat.reducePow, Nat.reduceAdd, Nat.reduceMul, Nat.add_zero, if_true, Nat.reduceEqDiff, if_false]
  clear e e2 h24 h25 h26 h27 h28 h29
  generalize (ks.getD 30 0 + ks.getD 31 0 * 256) % 32768 = t
  omega
theorem rof_any (ks : List Nat) (hk : Bytes ks) (w : World) :
    Calls Try.prog 9 #[.agg (cs8 ks)] w fun e w' => e = .returned (.agg (ca 16 (dg (numOf ks % pN)))) ∧ Below w.heap.size w w' := by
  have k1 := fun w => full_any (kd' ks) (fun j _ => by
    have h1 := hk.2 (2 * j)
    have h2 := hk.2 (2 * j + 1)
    have : kd ks j < 65536 := by unfold kd; omega
    unfold kd'
    split
    · have := Nat.mod_lt (kd ks 15) (show 0 < 32768 by decide); omega
    · omega) w
  rw [psum_kd ks hk] at k1
  exact rof_raw ks hk _ _ rfl k1 w
end Go.Proofs.Ytpgmaidbemndnaa
