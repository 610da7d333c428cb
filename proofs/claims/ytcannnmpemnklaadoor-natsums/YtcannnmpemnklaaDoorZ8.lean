/- Several texts in one: Package nat: the digits of a row. Package nat: a number as a text. The document: numbers as bytes: made, added, subtracted, compared. The document: bits, 64 bits. The document: products. -/
import Derived.Test.YtcannnmpemnklaaDoorZ7
namespace Go.Proofs.YtcannnmpemnklaaDoor
open Go.RowKit

/-- How long a slot's row is. -/
def lenS (t : Nat) (a : Act) : Nat := match a.tmps[t]? with | some (.slice _ n _) => n | _ => 0
theorem lenS_row {S : Nat → Prop} {w0 w : World} {L : Blks} {R : List Row} {a : Act} {t m k : Nat} {e : TypeId} {v : Value} {X : List Value} (h : a.tmps[t]? = some v) (M : MemS S w0 w L ((v, e, k, m, X) :: R)) : lenS t a = m := by
  obtain ⟨p, c, rfl, _⟩ := M.rowLen
  unfold lenS; rw [h]
theorem qleV_quot (K : Nat) : qleV (qleB (qsz K) (K / 10000000000000000000)) = K / 10000000000000000000 := by rw [qleV_leB, Nat.mod_eq_of_lt (Nat.lt_of_le_of_lt (Nat.div_le_self _ _) (qsz_ok K).1)]
theorem g_top {M : Nat} (h : M ≠ 0) : M / 10000000000000000000 ^ (gsz M - 1) < 10000000000000000000 := by
  have hp := gsz_pos h
  refine Nat.div_lt_of_lt_mul ?_
  rw [← Nat.pow_succ, show (gsz M - 1).succ = gsz M by omega]
  exact (gsz_ok M).1
set_option maxRecDepth 100000 in
theorem digs_main (g cap M : Nat) (rest0 : Array Value) (O : Blks) (hT : TabO O) (h0 : M ≠ 0) (hsz : (cn .u64 (qminB M) ++ rest0).size = cap) (hs : qsz M < 1000000) (w0 : World) (H : Has w0 ((g, Obj.cells (cn .u64 (qminB M) ++ rest0) 22) :: O)) (hD : Distinct ((g, Obj.cells (cn .u64 (qminB M) ++ rest0) 22) :: O)) :
    Calls Tryd.prog 32 #[.slice (some ⟨g, 0, none⟩) (qsz M) cap] w0 fun e w' => e = .returned (.string (bs (decN M))) ∧ ∃ ob, Turn g ob w0 w' := by
  refine enter_fr Tryd.func32 rfl Tryd.ntmps32 (by simp) fun ac (FF0 : Fr 49 ac [(0, .slice (some ⟨g, 0, none⟩) (qsz M) cap)]) => ?_
  have e0 : M / 10000000000000000000 ^ 0 = M := by rw [Nat.pow_zero, Nat.div_one]
  have FF : Fr 49 ac [(0, trimV (some ⟨g, 0, none⟩) (M / 10000000000000000000 ^ 0) cap)] := by rw [e0, trimV_pos _ _ h0]; exact FF0
  have MM0 : MemS (fun k => k < w0.heap.size ∧ ∀ x ∈ (g, Obj.cells (cn .u64 (qminB M) ++ rest0) 22) :: O, x.1 ≠ k) w0 w0 ((g, .cells (cn .u64 (qminB M) ++ rest0) 22) :: O) [] := MemS.startN H hD
  have MM : MemS (fun k => k < w0.heap.size ∧ ∀ x ∈ (g, Obj.cells (cn .u64 (qminB M) ++ rest0) 22) :: O, x.1 ≠ k) w0 w0 ((g, .cells ((cn .u64 (qminB (M / 10000000000000000000 ^ 0))) ++ rest0) 22) :: O) [] := by rw [e0]; exact MM0
  have hz0 : (cn .u64 (qminB (M / 10000000000000000000 ^ 0)) ++ rest0).size = cap := by rw [e0]; exact hsz
  have hgb := gsz_bd M
  refine wp_seq (rg_seq FF MM [o_] [0, 2] (fun Kt => Kt [(2, .string (bs [])), (0, trimV (some ⟨g, 0, none⟩) (M / 10000000000000000000 ^ 0) cap)] ((g, .cells ((cn .u64 (qminB (M / 10000000000000000000 ^ 0))) ++ rest0) 22) :: O)) (by kernel_rfl) (fun _ => by kernel_rfl) (fun ac1 wd1 FF1 MM1 => then_n ?_))
  refine wp_seq (rg_seq FF1 MM1 [o_] [2, 0, 3] (fun Kt => Kt [(3, .slice none 0 0), (2, .string (bs [])), (0, trimV (some ⟨g, 0, none⟩) (M / 10000000000000000000 ^ 0) cap)] ((g, .cells ((cn .u64 (qminB (M / 10000000000000000000 ^ 0))) ++ rest0) 22) :: O)) (by kernel_rfl) (fun _ => by kernel_rfl) (fun ac2 wd2 FF2 MM2 => then_n ?_))
  have MMn : MemS (fun k => k < w0.heap.size ∧ ∀ x ∈ (g, Obj.cells (cn .u64 (qminB M) ++ rest0) 22) :: O, x.1 ≠ k) w0 wd2 ((g, .cells ((cn .u64 (qminB (M / 10000000000000000000 ^ 0))) ++ rest0) 22) :: O) [(.slice none 0 0, 22, 1, 0, (wc (gleB 0 M)))] := MM2.rowNil 22 1
  refine wp_seq ?_
  refine wp_for2w (fun a' w' => ∃ i : Nat, ∃ rv : Value, ∃ rs : Array Value, i ≤ gsz M ∧ (cn .u64 (qminB (M / 10000000000000000000 ^ i)) ++ rs).size = cap ∧ Fr 49 a' [(3, rv), (2, .string (bs [])), (0, trimV (some ⟨g, 0, none⟩) (M / 10000000000000000000 ^ i) cap)] ∧ MemS (fun k => k < w0.heap.size ∧ ∀ x ∈ (g, Obj.cells (cn .u64 (qminB M) ++ rest0) 22) :: O, x.1 ≠ k) w0 w' ((g, .cells ((cn .u64 (qminB (M / 10000000000000000000 ^ i))) ++ rs) 22) :: O) [(rv, 22, 1, i, (wc (gleB i M)))]) (fun a' _ => gsz M - lenS 3 a') ⟨0, (.slice none 0 0), rest0, Nat.zero_le _, hz0, FF2.pick [0, 1, 2], MMn⟩ ?_
  rintro ac3 wd3 ⟨i, rv, rs, hi, hzr, FF3, MM3⟩
  have hc := lenS_row (FF3.get 0 rfl) MM3
  by_cases h1 : qsz (M / 10000000000000000000 ^ i) > 0
  · skip
    refine rg_seq FF3 MM3 [o_, o_, w_ 2] [3, 2, 0, 10] (fun Kt => (qsz (M / 10000000000000000000 ^ i)) > 0 ∧ Kt [(10, .bool true), (3, rv), (2, .string (bs [])), (0, trimV (some ⟨g, 0, none⟩) (M / 10000000000000000000 ^ i) cap)] ((g, .cells ((cn .u64 (qminB (M / 10000000000000000000 ^ i))) ++ rs) 22) :: O)) (by kernel_rfl) (fun _ => by kernel_rfl) (⟨h1, fun ac4 wd4 FF4 MM4 => ?_⟩)
    refine then_n (.inl ⟨FF4.ev 0 rfl, ?_⟩)
    have hKne : M / 10000000000000000000 ^ i ≠ 0 := fun e => by rw [e] at h1; exact absurd h1 (by decide)
    have hig := g_more hKne
    have hKs : qsz (M / 10000000000000000000 ^ i) ≤ qsz M := qsz_mono (Nat.div_le_self _ _)
    rw [trimV_pos _ _ hKne] at FF4
    have hcapK : qsz (M / 10000000000000000000 ^ i) ≤ cap := by rw [← hzr, Array.size_append, cn_size, qminB_len]; omega
    refine wp_seq (wp_region_list ?_)
    refine rg_part 2 FF4 MM4 [o_, o_] [3, 2, 0, 11, 12] (fun Kt => Kt [(12, .slice (some ⟨g, 0, none⟩) (qsz (M / 10000000000000000000 ^ i)) cap), (11, rv), (3, rv), (2, .string (bs [])), (0, .slice (some ⟨g, 0, none⟩) (qsz (M / 10000000000000000000 ^ i)) cap)] ((g, .cells ((cn .u64 (qminB (M / 10000000000000000000 ^ i))) ++ rs) 22) :: O)) (by kernel_rfl) (fun _ => by kernel_rfl) (fun ac5 wd5 FF5 MM5 => ?_)
    refine st_callM [11, 3, 2, 0, 13] FF5 (d := 13) en_parted rfl rfl (parted_any g cap (M / 10000000000000000000 ^ i) rs hzr (by omega) _ (MM5.get 0 rfl)) rfl (by kernel_rfl) (by decide) fun ac6 wd6 (FF6 : Fr 49 ac6 [(13, .int .u64 (M / 10000000000000000000 ^ i % 10000000000000000000 : Nat)), (11, rv), (3, rv), (2, .string (bs [])), (0, .slice (some ⟨g, 0, none⟩) (qsz (M / 10000000000000000000 ^ i)) cap)]) hr7 => ?_
    have MM6t : MemS (fun k => k < w0.heap.size ∧ ∀ x ∈ (g, Obj.cells (cn .u64 (qminB M) ++ rest0) 22) :: O, x.1 ≠ k) w0 wd6 ((g, .cells ((cn .u64 (qleB (qsz (M / 10000000000000000000 ^ i)) (M / 10000000000000000000 ^ i / 10000000000000000000))) ++ rs) 22) :: O) [(rv, 22, 1, i, (wc (gleB i M)))] := MM5.turned hr7
    refine rg_part 1 FF6 MM6t [o_] [11, 3, 2, 0, 14] (fun Kt => ∀ bq, Kt [(14, .slice (some ⟨bq, 0, none⟩) 1 1), (11, rv), (3, rv), (2, .string (bs [])), (0, .slice (some ⟨g, 0, none⟩) (qsz (M / 10000000000000000000 ^ i)) cap)] ((bq, .cells (cn .u64 ([M / 10000000000000000000 ^ i % 10000000000000000000])) 22) :: (g, .cells ((cn .u64 (qleB (qsz (M / 10000000000000000000 ^ i)) (M / 10000000000000000000 ^ i / 10000000000000000000))) ++ rs) 22) :: O)) (by kernel_rfl) (fun _ => by kernel_rfl) (fun bq => fun ac8 wd8 FF8 MM8 => ?_)
    refine st_app [3, 2, 0, 15] FF8 MM8 (d := 15) (s := 11) (x := 14) (Y := (wc [M / 10000000000000000000 ^ i % 10000000000000000000])) (z := .int .u64 (0 : Nat)) (bb := 8) rfl rfl rfl rfl (lies_cn64 (MM8.get 0 rfl)) (wc_one _) (by decide) Tryd.underlying24 (by kernel_rfl) rfl (by decide) (by simp only [maxLen]; omega) (by omega) rfl rfl (by decide) fun ac10 wd10 rv9 (FF10 : Fr 49 ac10 [(15, rv9), (3, rv), (2, .string (bs [])), (0, .slice (some ⟨g, 0, none⟩) (qsz (M / 10000000000000000000 ^ i)) cap)]) (MM10 : MemS (fun k => k < w0.heap.size ∧ ∀ x ∈ (g, Obj.cells (cn .u64 (qminB M) ++ rest0) 22) :: O, x.1 ≠ k) w0 wd10 ((bq, .cells (cn .u64 ([M / 10000000000000000000 ^ i % 10000000000000000000])) 22) :: (g, .cells ((cn .u64 (qleB (qsz (M / 10000000000000000000 ^ i)) (M / 10000000000000000000 ^ i / 10000000000000000000))) ++ rs) 22) :: O) [(rv9, 22, 1, (i + 1), ((wc (gleB i M)) ++ (wc [M / 10000000000000000000 ^ i % 10000000000000000000])))]) => ?_
    have MMa : MemS (fun k => k < w0.heap.size ∧ ∀ x ∈ (g, Obj.cells (cn .u64 (qminB M) ++ rest0) 22) :: O, x.1 ≠ k) w0 wd10 ((bq, .cells (cn .u64 ([M / 10000000000000000000 ^ i % 10000000000000000000])) 22) :: (g, .cells ((cn .u64 (qleB (qsz (M / 10000000000000000000 ^ i)) (M / 10000000000000000000 ^ i / 10000000000000000000))) ++ rs) 22) :: O) [(rv9, 22, 1, (i + 1), (wc (gleB (i + 1) M)))] := by have h9 := MM10; rw [wc_app, ← gleB_succ] at h9; exact h9
    refine rg_part 1 FF10 MMa [o_] [3, 2, 0] (fun Kt => Kt [(3, rv9), (2, .string (bs [])), (0, .slice (some ⟨g, 0, none⟩) (qsz (M / 10000000000000000000 ^ i)) cap)] ((bq, .cells (cn .u64 ([M / 10000000000000000000 ^ i % 10000000000000000000])) 22) :: (g, .cells ((cn .u64 (qleB (qsz (M / 10000000000000000000 ^ i)) (M / 10000000000000000000 ^ i / 10000000000000000000))) ++ rs) 22) :: O)) (by kernel_rfl) (fun _ => by kernel_rfl) (fun ac11 wd11 FF11 MM11 => ?_)
    refine wpl_nil (then_n ?_)
    refine rg_seq FF11 MM11 [o_, u_ 1 (trimV (some ⟨g, 0, none⟩) (M / 10000000000000000000 ^ i / 10000000000000000000) cap), o_] [3, 2, 0] (fun Kt => CallP Tryd.prog 30 [.slice (some ⟨g, 0, none⟩) (qsz (M / 10000000000000000000 ^ i)) cap] ((bq, .cells (cn .u64 ([M / 10000000000000000000 ^ i % 10000000000000000000])) 22) :: (g, .cells ((cn .u64 (qleB (qsz (M / 10000000000000000000 ^ i)) (M / 10000000000000000000 ^ i / 10000000000000000000))) ++ rs) 22) :: O) (trimV (some ⟨g, 0, none⟩) (M / 10000000000000000000 ^ i / 10000000000000000000) cap) ∧ Kt [(0, trimV (some ⟨g, 0, none⟩) (M / 10000000000000000000 ^ i / 10000000000000000000) cap), (3, rv9), (2, .string (bs []))] ((bq, .cells (cn .u64 ([M / 10000000000000000000 ^ i % 10000000000000000000])) 22) :: (g, .cells ((cn .u64 (qleB (qsz (M / 10000000000000000000 ^ i)) (M / 10000000000000000000 ^ i / 10000000000000000000))) ++ rs) 22) :: O)) (by kernel_rfl) (fun _ => by kernel_rfl) (⟨⟨en_trimd, fun w Hw => by have h0 := trimd_any (some ⟨g, 0, none⟩) cap (qleB (qsz (M / 10000000000000000000 ^ i)) (M / 10000000000000000000 ^ i / 10000000000000000000)) (qleB_lt _ _) (by rw [qleB_len]; exact hcapK) (by rw [qleB_len]; omega) w (.inr ⟨g, _, _, _, rfl, Hw 1 _ rfl, fun j hj => (Array.getElem?_append_left (by rw [cn_size]; exact hj)).trans (cn_get _ _ _ hj)⟩); rw [show (qleB (qsz (M / 10000000000000000000 ^ i)) (M / 10000000000000000000 ^ i / 10000000000000000000)).length = qsz (M / 10000000000000000000 ^ i) from (qleB_len _ _), qleV_quot] at h0; exact h0⟩, fun ac12 wd12 FF12 MM12 => ?_⟩)
    obtain ⟨rs2, hrs2⟩ := reb (n := qsz (M / 10000000000000000000 ^ i)) (K := M / 10000000000000000000 ^ (i + 1)) (by rw [← g_next]; exact qsz_mono (Nat.div_le_self _ _)) rs
    have hzr2 : (cn .u64 (qminB (M / 10000000000000000000 ^ (i + 1))) ++ rs2).size = cap := by rw [← hrs2, Array.size_append, cn_size, qleB_len]; rw [Array.size_append, cn_size, qminB_len] at hzr; exact hzr
    have MMb : MemS (fun k => k < w0.heap.size ∧ ∀ x ∈ (g, Obj.cells (cn .u64 (qminB M) ++ rest0) 22) :: O, x.1 ≠ k) w0 wd12 ((bq, .cells (cn .u64 ([M / 10000000000000000000 ^ i % 10000000000000000000])) 22) :: (g, .cells ((cn .u64 (qminB (M / 10000000000000000000 ^ (i + 1)))) ++ rs2) 22) :: O) [(rv9, 22, 1, (i + 1), (wc (gleB (i + 1) M)))] := by rw [← hrs2, ← g_next]; exact MM12
    rw [g_next] at FF12
    refine inb_n ?_
    have hd := lenS_row (FF12.get 1 rfl) MMb
    refine then_n ⟨⟨i + 1, rv9, rs2, by omega, hzr2, FF12.pick [1, 2, 0], (MMb.dropAt 0)⟩, ?_⟩
    rw [hc, hd]; omega
  · skip
    refine rg_seq FF3 MM3 [o_, o_, w_ 3] [3, 2, 0, 10] (fun Kt => ¬ ((qsz (M / 10000000000000000000 ^ i)) > 0) ∧ Kt [(10, .bool false), (3, rv), (2, .string (bs [])), (0, trimV (some ⟨g, 0, none⟩) (M / 10000000000000000000 ^ i) cap)] ((g, .cells ((cn .u64 (qminB (M / 10000000000000000000 ^ i))) ++ rs) 22) :: O)) (by kernel_rfl) (fun _ => by kernel_rfl) (⟨h1, fun ac13 wd13 FF13 MM13 => ?_⟩)
    refine then_n (.inr ⟨FF13.ev 0 rfl, ?_⟩)
    have hK0 : M / 10000000000000000000 ^ i = 0 := qz0 (by omega)
    have hie : i = gsz M := by have := Nat.le_of_not_lt fun h => g_less h hK0; omega
    subst hie
    refine then_n ?_
    refine wp_seq ?_
    have hgp := gsz_pos h0
    obtain ⟨pg, gc, rfl, _⟩ := MM13.rowLen
    obtain ⟨gb, rfl⟩ := MM13.rowSome hgp
    obtain ⟨rg, MMf, hgf, hgcap, _, hgsz, _⟩ := MM13.freezeW
    have MMh : MemS (fun k => k < w0.heap.size ∧ ∀ x ∈ (g, Obj.cells (cn .u64 (qminB M) ++ rest0) 22) :: O, x.1 ≠ k) w0 wd13 ((gb, .cells ((cn .u64 (gleB (gsz M) M)) ++ rg) 22) :: (g, .cells ((cn .u64 (qminB (M / 10000000000000000000 ^ (gsz M)))) ++ rs) 22) :: O) [] := MMf
    refine wp_seq (rg_seq FF13 MMh [o_, o_, w_ 3] [3, 2, 0, 20] (fun Kt => ¬ ((gsz M) = 0) ∧ Kt [(20, .bool false), (3, .slice (some ⟨gb, 0, none⟩) (gsz M) gc), (2, .string (bs [])), (0, trimV (some ⟨g, 0, none⟩) (M / 10000000000000000000 ^ (gsz M)) cap)] ((gb, .cells ((cn .u64 (gleB (gsz M) M)) ++ rg) 22) :: (g, .cells ((cn .u64 (qminB (M / 10000000000000000000 ^ (gsz M)))) ++ rs) 22) :: O)) (by kernel_rfl) (fun _ => by kernel_rfl) (⟨(by omega), fun ac14 wd14 FF14 MM14 => then_n ?_⟩))
    refine wp_cond_false (FF14.ev 0 rfl) ?_
    refine wp_skip ?_
    refine then_n ?_
    refine wp_seq (rg_seq FF14 MM14 [o_, o_, w_ 1, o_] [3, 2, 0, 4] (fun Kt => 1 ≤ (gsz M) ∧ (gsz M) - 1 < 9223372036854775808 ∧ Kt [(4, .int .i64 ((gsz M) - 1 : Nat)), (3, .slice (some ⟨gb, 0, none⟩) (gsz M) gc), (2, .string (bs [])), (0, trimV (some ⟨g, 0, none⟩) (M / 10000000000000000000 ^ (gsz M)) cap)] ((gb, .cells ((cn .u64 (gleB (gsz M) M)) ++ rg) 22) :: (g, .cells ((cn .u64 (qminB (M / 10000000000000000000 ^ (gsz M)))) ++ rs) 22) :: O)) (by kernel_rfl) (fun _ => by kernel_rfl) (⟨(by omega), (by omega), fun ac15 wd15 FF15 MM15 => then_n ?_⟩))
    refine wp_seq (rg_seq FF15 MM15 [o_] [4, 3, 2, 0, 5] (fun Kt => ∀ bd, Kt [(5, .pointer (some ⟨bd, 0, none⟩)), (4, .int .i64 ((gsz M) - 1 : Nat)), (3, .slice (some ⟨gb, 0, none⟩) (gsz M) gc), (2, .string (bs [])), (0, trimV (some ⟨g, 0, none⟩) (M / 10000000000000000000 ^ (gsz M)) cap)] ((bd, .cells (#[.pointer none, .slice none 0 0] : Array Value) 74) :: (gb, .cells ((cn .u64 (gleB (gsz M) M)) ++ rg) 22) :: (g, .cells ((cn .u64 (qminB (M / 10000000000000000000 ^ (gsz M)))) ++ rs) 22) :: O)) (by kernel_rfl) (fun _ => by kernel_rfl) (fun bd => fun ac16 wd16 FF16 MM16 => then_n ?_))
    have MMi := MM16.rowNil 5 1
    have MMj : MemS (fun k => k < w0.heap.size ∧ ∀ x ∈ (g, Obj.cells (cn .u64 (qminB M) ++ rest0) 22) :: O, x.1 ≠ k) w0 wd16 ((bd, .cells (#[.pointer none, .slice none 0 0] : Array Value) 74) :: (gb, .cells ((cn .u64 (gleB (gsz M) M)) ++ rg) 22) :: (g, .cells ((cn .u64 (qminB (M / 10000000000000000000 ^ (gsz M)))) ++ rs) 22) :: O) [(.slice none 0 0, 5, 1, 0, (bcells []))] := MMi
    refine wp_seq (wp_region_list ?_)
    refine rg_part 5 FF16 MMj [o_, o_, w_ 1, l_ 1 (.int .u64 (M / 10000000000000000000 ^ (gsz M - 1) % 10000000000000000000 : Nat)), u_ 1 (.string (bs (decN (M / 10000000000000000000 ^ (gsz M - 1) % 10000000000000000000))))] [5, 4, 3, 2, 0, 28] (fun Kt => ((gsz M) - 1) < (gsz M) ∧ gb = gb ∧ ((cn .u64 (gleB (gsz M) M)) ++ rg)[(gsz M) - 1]? = some (.int .u64 (M / 10000000000000000000 ^ (gsz M - 1) % 10000000000000000000 : Nat)) ∧ CallP Tryd.prog 44 [.int .u64 (M / 10000000000000000000 ^ (gsz M - 1) % 10000000000000000000 : Nat), .int .i64 (10 : Nat)] ((bd, .cells (#[.pointer none, .slice none 0 0] : Array Value) 74) :: (gb, .cells ((cn .u64 (gleB (gsz M) M)) ++ rg) 22) :: (g, .cells ((cn .u64 (qminB (M / 10000000000000000000 ^ (gsz M)))) ++ rs) 22) :: O) (.string (bs (decN (M / 10000000000000000000 ^ (gsz M - 1) % 10000000000000000000)))) ∧ Kt [(28, .string (bs (decN (M / 10000000000000000000 ^ (gsz M - 1) % 10000000000000000000)))), (5, .pointer (some ⟨bd, 0, none⟩)), (4, .int .i64 ((gsz M) - 1 : Nat)), (3, .slice (some ⟨gb, 0, none⟩) (gsz M) gc), (2, .string (bs [])), (0, trimV (some ⟨g, 0, none⟩) (M / 10000000000000000000 ^ (gsz M)) cap)] ((bd, .cells (#[.pointer none, .slice none 0 0] : Array Value) 74) :: (gb, .cells ((cn .u64 (gleB (gsz M) M)) ++ rg) 22) :: (g, .cells ((cn .u64 (qminB (M / 10000000000000000000 ^ (gsz M)))) ++ rs) 22) :: O)) (by kernel_rfl) (fun _ => by kernel_rfl) (⟨(by omega), rfl, ((cat_l (by rw [cn_size, gleB_len]; omega)).trans ((cn_get _ _ _ (by rw [gleB_len]; omega)).trans (congrArg some (vI (gleB_get (by omega)))))), ⟨en_fmtu, fun w Hw => fmtu_any (M / 10000000000000000000 ^ (gsz M - 1) % 10000000000000000000) (Nat.lt_trans (Nat.mod_lt _ (by decide)) (by decide)) w (hT.at (Has.tl (Has.tl (Has.tl Hw))))⟩, fun ac17 wd17 FF17 MM17 => ?_⟩)
    have hbd := decN_bd (M / 10000000000000000000 ^ (gsz M - 1) % 10000000000000000000)
    have hq2 : qsz (M / 10000000000000000000 ^ (gsz M - 1) % 10000000000000000000) ≤ 1 := qsz_le (Nat.lt_trans (Nat.mod_lt _ (by decide)) (by decide))
    refine st_callM [5, 4, 3, 2, 0, 29] FF17 (d := 29) en_bwrite rfl rfl (bwrite_any (.inl rfl) (decN_lt _) (by omega) _ MM17) rfl (by kernel_rfl) (by decide) fun ac18 wd18 (FF18 : Fr 49 ac18 [(29, .tuple #[.int .i64 ((decN (M / 10000000000000000000 ^ (gsz M - 1) % 10000000000000000000)).length : Nat), .nilIface]), (5, .pointer (some ⟨bd, 0, none⟩)), (4, .int .i64 ((gsz M) - 1 : Nat)), (3, .slice (some ⟨gb, 0, none⟩) (gsz M) gc), (2, .string (bs [])), (0, trimV (some ⟨g, 0, none⟩) (M / 10000000000000000000 ^ (gsz M)) cap)]) hr19 => ?_
    obtain ⟨rq20, rc21, MM18⟩ := hr19
    have MM18 : MemS (fun k => k < w0.heap.size ∧ ∀ x ∈ (g, Obj.cells (cn .u64 (qminB M) ++ rest0) 22) :: O, x.1 ≠ k) w0 wd18 ((bd, .cells (#[.pointer (some ⟨bd, 0, none⟩), .slice rq20 (0 + (decN (M / 10000000000000000000 ^ (gsz M - 1) % 10000000000000000000)).length) rc21] : Array Value) 74) :: (gb, .cells ((cn .u64 (gleB (gsz M) M)) ++ rg) 22) :: (g, .cells ((cn .u64 (qminB (M / 10000000000000000000 ^ (gsz M)))) ++ rs) 22) :: O) [(.slice rq20 (0 + (decN (M / 10000000000000000000 ^ (gsz M - 1) % 10000000000000000000)).length) rc21, 5, 1, (0 + (decN (M / 10000000000000000000 ^ (gsz M - 1) % 10000000000000000000)).length), ((bcells []) ++ bcells (decN (M / 10000000000000000000 ^ (gsz M - 1) % 10000000000000000000))))] := MM18
    refine wpl_nil (then_n ?_)
    have eT : M / 10000000000000000000 ^ (gsz M - 1) % 10000000000000000000 = M / 10000000000000000000 ^ (gsz M - 1) := Nat.mod_eq_of_lt (g_top h0)
    have MMk : MemS (fun k => k < w0.heap.size ∧ ∀ x ∈ (g, Obj.cells (cn .u64 (qminB M) ++ rest0) 22) :: O, x.1 ≠ k) w0 wd18 ((bd, .cells (#[.pointer (some ⟨bd, 0, none⟩), .slice rq20 (decN (M / 10000000000000000000 ^ (gsz M - 1))).length rc21] : Array Value) 74) :: (gb, .cells ((cn .u64 (gleB (gsz M) M)) ++ rg) 22) :: (g, .cells ((cn .u64 (qminB (M / 10000000000000000000 ^ (gsz M)))) ++ rs) 22) :: O) [(.slice rq20 (decN (M / 10000000000000000000 ^ (gsz M - 1))).length rc21, 5, 1, (decN (M / 10000000000000000000 ^ (gsz M - 1))).length, (bcells (decN (M / 10000000000000000000 ^ (gsz M - 1)))))] := by have h9 := MM18; rw [Nat.zero_add, bcells_app, List.nil_append, eT] at h9; exact h9
    refine wp_seq ?_
    refine wp_seq (rg_seq FF18 MMk [o_, u_ 4 (.int .i64 (((gsz M - 1 : Nat) : Int) - 1 : Int)), o_] [5, 4, 3, 2, 0, 6] (fun Kt => -(9223372036854775808 : Int) ≤ (((gsz M) - 1 : Nat) : Int) - ((1 : Nat) : Int) ∧ (((gsz M) - 1 : Nat) : Int) - ((1 : Nat) : Int) < (9223372036854775808 : Nat) ∧ Value.int .i64 ((((gsz M) - 1 : Nat) : Int) - ((1 : Nat) : Int) : Int) = .int .i64 (((gsz M - 1 : Nat) : Int) - 1 : Int) ∧ Kt [(6, .int .i64 (((gsz M - 1 : Nat) : Int) - 1 : Int)), (5, .pointer (some ⟨bd, 0, none⟩)), (4, .int .i64 ((gsz M) - 1 : Nat)), (3, .slice (some ⟨gb, 0, none⟩) (gsz M) gc), (2, .string (bs [])), (0, trimV (some ⟨g, 0, none⟩) (M / 10000000000000000000 ^ (gsz M)) cap)] ((bd, .cells (#[.pointer (some ⟨bd, 0, none⟩), .slice rq20 (decN (M / 10000000000000000000 ^ (gsz M - 1))).length rc21] : Array Value) 74) :: (gb, .cells ((cn .u64 (gleB (gsz M) M)) ++ rg) 22) :: (g, .cells ((cn .u64 (qminB (M / 10000000000000000000 ^ (gsz M)))) ++ rs) 22) :: O)) (by kernel_rfl) (fun _ => by kernel_rfl) (⟨(by omega), (by omega), (vZ (by omega)), fun ac22 wd22 FF22 MM22 => then_n ?_⟩))
    refine wp_for2 (fun a' w' => ∃ j : Nat, ∃ q : Option Addr, ∃ c : Nat, j < gsz M ∧ Fr 49 a' [(6, .int .i64 (((j : Nat) : Int) - 1 : Int)), (5, .pointer (some ⟨bd, 0, none⟩)), (4, .int .i64 ((gsz M) - 1 : Nat)), (3, .slice (some ⟨gb, 0, none⟩) (gsz M) gc), (2, .string (bs [])), (0, trimV (some ⟨g, 0, none⟩) (M / 10000000000000000000 ^ (gsz M)) cap)] ∧ MemS (fun k => k < w0.heap.size ∧ ∀ x ∈ (g, Obj.cells (cn .u64 (qminB M) ++ rest0) 22) :: O, x.1 ≠ k) w0 w' ((bd, .cells (#[.pointer (some ⟨bd, 0, none⟩), .slice q (decN (M / 10000000000000000000 ^ j)).length c] : Array Value) 74) :: (gb, .cells ((cn .u64 (gleB (gsz M) M)) ++ rg) 22) :: (g, .cells ((cn .u64 (qminB (M / 10000000000000000000 ^ (gsz M)))) ++ rs) 22) :: O) [(.slice q (decN (M / 10000000000000000000 ^ j)).length c, 5, 1, (decN (M / 10000000000000000000 ^ j)).length, (bcells (decN (M / 10000000000000000000 ^ j))))]) (fun a' _ => (cnt 6 a' + 1).toNat) ⟨gsz M - 1, rq20, rc21, by omega, FF22.pick [0, 1, 2, 3, 4, 5], MM22⟩ ?_
    rintro ac23 wd23 ⟨j, q, c, hj, FF23, MM23⟩
    have hc := cnt_of (FF23.get 0 rfl)
    refine rg_seq FF23 MM23 [o_, w_ 4] [6, 5, 4, 3, 2, 0, 33] (fun Kt => Kt [(33, .bool (decide ((((j : Nat) : Int) - 1) ≥ ((0 : Nat) : Int)))), (6, .int .i64 (((j : Nat) : Int) - 1 : Int)), (5, .pointer (some ⟨bd, 0, none⟩)), (4, .int .i64 ((gsz M) - 1 : Nat)), (3, .slice (some ⟨gb, 0, none⟩) (gsz M) gc), (2, .string (bs [])), (0, trimV (some ⟨g, 0, none⟩) (M / 10000000000000000000 ^ (gsz M)) cap)] ((bd, .cells (#[.pointer (some ⟨bd, 0, none⟩), .slice q (decN (M / 10000000000000000000 ^ j)).length c] : Array Value) 74) :: (gb, .cells ((cn .u64 (gleB (gsz M) M)) ++ rg) 22) :: (g, .cells ((cn .u64 (qminB (M / 10000000000000000000 ^ (gsz M)))) ++ rs) 22) :: O)) (by kernel_rfl) (fun _ => by kernel_rfl) (fun ac24 wd24 FF24 MM24 => ?_)
    by_cases hlt : (((j : Nat) : Int) - 1) ≥ ((0 : Nat) : Int)
    · skip
      refine then_n (.inl ⟨(FF24.ev 0 rfl).trans (dec_t hlt), ?_⟩)
      obtain ⟨j, rfl⟩ : ∃ z, j = z + 1 := ⟨j - 1, by omega⟩
      have hne := g_less (M := M) (i := j + 1) (by omega)
      have hbd := decN_bd (M / 10000000000000000000 ^ (j + 1))
      have hbs : qsz (M / 10000000000000000000 ^ (j + 1)) ≤ qsz M := qsz_mono (Nat.div_le_self _ _)
      obtain ⟨_, hp19⟩ := decN_pad (r := M / 10000000000000000000 ^ j % 10000000000000000000) (Nat.mod_lt _ (by decide))
      have hgr := dec_group hne
      refine wp_seq (rg_seq FF24 MM24 [o_, t_ (.int .i64 (j : Nat)), w_ 1, l_ 1 (.int .u64 (M / 10000000000000000000 ^ j % 10000000000000000000 : Nat)), u_ 1 (.string (bs (decN (M / 10000000000000000000 ^ j % 10000000000000000000)))), o_] [6, 5, 4, 3, 2, 0, 7] (fun Kt => Value.int .i64 ((((j + 1) : Nat) : Int) - 1 : Int) = .int .i64 (j : Nat) ∧ j < (gsz M) ∧ gb = gb ∧ ((cn .u64 (gleB (gsz M) M)) ++ rg)[j]? = some (.int .u64 (M / 10000000000000000000 ^ j % 10000000000000000000 : Nat)) ∧ CallP Tryd.prog 44 [.int .u64 (M / 10000000000000000000 ^ j % 10000000000000000000 : Nat), .int .i64 (10 : Nat)] ((bd, .cells (#[.pointer (some ⟨bd, 0, none⟩), .slice q (decN (M / 10000000000000000000 ^ (j + 1))).length c] : Array Value) 74) :: (gb, .cells ((cn .u64 (gleB (gsz M) M)) ++ rg) 22) :: (g, .cells ((cn .u64 (qminB (M / 10000000000000000000 ^ (gsz M)))) ++ rs) 22) :: O) (.string (bs (decN (M / 10000000000000000000 ^ j % 10000000000000000000)))) ∧ Kt [(7, .string (bs (decN (M / 10000000000000000000 ^ j % 10000000000000000000)))), (6, .int .i64 ((((j + 1) : Nat) : Int) - 1 : Int)), (5, .pointer (some ⟨bd, 0, none⟩)), (4, .int .i64 ((gsz M) - 1 : Nat)), (3, .slice (some ⟨gb, 0, none⟩) (gsz M) gc), (2, .string (bs [])), (0, trimV (some ⟨g, 0, none⟩) (M / 10000000000000000000 ^ (gsz M)) cap)] ((bd, .cells (#[.pointer (some ⟨bd, 0, none⟩), .slice q (decN (M / 10000000000000000000 ^ (j + 1))).length c] : Array Value) 74) :: (gb, .cells ((cn .u64 (gleB (gsz M) M)) ++ rg) 22) :: (g, .cells ((cn .u64 (qminB (M / 10000000000000000000 ^ (gsz M)))) ++ rs) 22) :: O)) (by kernel_rfl) (fun _ => by kernel_rfl) (⟨(vZ (by omega)), (by omega), rfl, ((cat_l (by rw [cn_size, gleB_len]; omega)).trans ((cn_get _ _ _ (by rw [gleB_len]; omega)).trans (congrArg some (vI (gleB_get (by omega)))))), ⟨en_fmtu, fun w Hw => fmtu_any (M / 10000000000000000000 ^ j % 10000000000000000000) (Nat.lt_trans (Nat.mod_lt _ (by decide)) (by decide)) w (hT.at (Has.tl (Has.tl (Has.tl Hw))))⟩, fun ac25 wd25 FF25 MM25 => then_n ?_⟩))
      refine wp_seq (wp_region_list ?_)
      refine rg_part 4 FF25 MM25 [o_, t_ (.int .i64 ((decN (M / 10000000000000000000 ^ j % 10000000000000000000)).length : Nat)), w_ 1, t_ (.string (bs (List.replicate (19 - ((decN (M / 10000000000000000000 ^ j % 10000000000000000000)).length)) 48)))] [7, 6, 5, 4, 3, 2, 0, 44] (fun Kt => Value.int .i64 ((bs (decN (M / 10000000000000000000 ^ j % 10000000000000000000))).size : Nat) = .int .i64 ((decN (M / 10000000000000000000 ^ j % 10000000000000000000)).length : Nat) ∧ ((decN (M / 10000000000000000000 ^ j % 10000000000000000000)).length) ≤ 19 ∧ 19 - ((decN (M / 10000000000000000000 ^ j % 10000000000000000000)).length) < 9223372036854775808 ∧ CallP Tryd.prog 45 [.string (bs [48]), .int .i64 (19 - ((decN (M / 10000000000000000000 ^ j % 10000000000000000000)).length) : Nat)] [] (.string (bs (List.replicate (19 - ((decN (M / 10000000000000000000 ^ j % 10000000000000000000)).length)) 48))) ∧ Kt [(44, .string (bs (List.replicate (19 - ((decN (M / 10000000000000000000 ^ j % 10000000000000000000)).length)) 48))), (7, .string (bs (decN (M / 10000000000000000000 ^ j % 10000000000000000000)))), (6, .int .i64 ((((j + 1) : Nat) : Int) - 1 : Int)), (5, .pointer (some ⟨bd, 0, none⟩)), (4, .int .i64 ((gsz M) - 1 : Nat)), (3, .slice (some ⟨gb, 0, none⟩) (gsz M) gc), (2, .string (bs [])), (0, trimV (some ⟨g, 0, none⟩) (M / 10000000000000000000 ^ (gsz M)) cap)] ((bd, .cells (#[.pointer (some ⟨bd, 0, none⟩), .slice q (decN (M / 10000000000000000000 ^ (j + 1))).length c] : Array Value) 74) :: (gb, .cells ((cn .u64 (gleB (gsz M) M)) ++ rg) 22) :: (g, .cells ((cn .u64 (qminB (M / 10000000000000000000 ^ (gsz M)))) ++ rs) 22) :: O)) (by kernel_rfl) (fun _ => by kernel_rfl) (⟨(vI (bs_size _)), hp19, (by omega), (callP_of en_repeat (repeat_any (19 - ((decN (M / 10000000000000000000 ^ j % 10000000000000000000)).length)) (by omega)) _), fun ac26 wd26 FF26 MM26 => ?_⟩)
      refine st_callM [7, 6, 5, 4, 3, 2, 0, 45] FF26 (d := 45) en_bwrite rfl rfl (bwrite_any (.inr rfl) (rep48_lt _) (by rw [List.length_replicate]; omega) _ MM26) rfl (by kernel_rfl) (by decide) fun ac27 wd27 (FF27 : Fr 49 ac27 [(45, .tuple #[.int .i64 ((List.replicate (19 - (decN (M / 10000000000000000000 ^ j % 10000000000000000000)).length) 48).length : Nat), .nilIface]), (7, .string (bs (decN (M / 10000000000000000000 ^ j % 10000000000000000000)))), (6, .int .i64 ((((j + 1) : Nat) : Int) - 1 : Int)), (5, .pointer (some ⟨bd, 0, none⟩)), (4, .int .i64 ((gsz M) - 1 : Nat)), (3, .slice (some ⟨gb, 0, none⟩) (gsz M) gc), (2, .string (bs [])), (0, trimV (some ⟨g, 0, none⟩) (M / 10000000000000000000 ^ (gsz M)) cap)]) hr28 => ?_
      obtain ⟨rq29, rc30, MM27⟩ := hr28
      have MM27 : MemS (fun k => k < w0.heap.size ∧ ∀ x ∈ (g, Obj.cells (cn .u64 (qminB M) ++ rest0) 22) :: O, x.1 ≠ k) w0 wd27 ((bd, .cells (#[.pointer (some ⟨bd, 0, none⟩), .slice rq29 ((decN (M / 10000000000000000000 ^ (j + 1))).length + (List.replicate (19 - (decN (M / 10000000000000000000 ^ j % 10000000000000000000)).length) 48).length) rc30] : Array Value) 74) :: (gb, .cells ((cn .u64 (gleB (gsz M) M)) ++ rg) 22) :: (g, .cells ((cn .u64 (qminB (M / 10000000000000000000 ^ (gsz M)))) ++ rs) 22) :: O) [(.slice rq29 ((decN (M / 10000000000000000000 ^ (j + 1))).length + (List.replicate (19 - (decN (M / 10000000000000000000 ^ j % 10000000000000000000)).length) 48).length) rc30, 5, 1, ((decN (M / 10000000000000000000 ^ (j + 1))).length + (List.replicate (19 - (decN (M / 10000000000000000000 ^ j % 10000000000000000000)).length) 48).length), ((bcells (decN (M / 10000000000000000000 ^ (j + 1)))) ++ bcells (List.replicate (19 - (decN (M / 10000000000000000000 ^ j % 10000000000000000000)).length) 48)))] := MM27
      refine wpl_nil (then_n ?_)
      refine wp_region_list ?_
      refine rg_part 1 FF27 MM27 [o_] [7, 6, 5, 4, 3, 2, 0, 46] (fun Kt => Kt [(46, .string (bs (decN (M / 10000000000000000000 ^ j % 10000000000000000000)))), (7, .string (bs (decN (M / 10000000000000000000 ^ j % 10000000000000000000)))), (6, .int .i64 ((((j + 1) : Nat) : Int) - 1 : Int)), (5, .pointer (some ⟨bd, 0, none⟩)), (4, .int .i64 ((gsz M) - 1 : Nat)), (3, .slice (some ⟨gb, 0, none⟩) (gsz M) gc), (2, .string (bs [])), (0, trimV (some ⟨g, 0, none⟩) (M / 10000000000000000000 ^ (gsz M)) cap)] ((bd, .cells (#[.pointer (some ⟨bd, 0, none⟩), .slice rq29 ((decN (M / 10000000000000000000 ^ (j + 1))).length + (List.replicate (19 - (decN (M / 10000000000000000000 ^ j % 10000000000000000000)).length) 48).length) rc30] : Array Value) 74) :: (gb, .cells ((cn .u64 (gleB (gsz M) M)) ++ rg) 22) :: (g, .cells ((cn .u64 (qminB (M / 10000000000000000000 ^ (gsz M)))) ++ rs) 22) :: O)) (by kernel_rfl) (fun _ => by kernel_rfl) (fun ac31 wd31 FF31 MM31 => ?_)
      refine st_callM [7, 6, 5, 4, 3, 2, 0, 47] FF31 (d := 47) en_bwrite rfl rfl (bwrite_any (.inr rfl) (decN_lt _) (by rw [List.length_replicate]; omega) _ MM31) rfl (by kernel_rfl) (by decide) fun ac32 wd32 (FF32 : Fr 49 ac32 [(47, .tuple #[.int .i64 ((decN (M / 10000000000000000000 ^ j % 10000000000000000000)).length : Nat), .nilIface]), (7, .string (bs (decN (M / 10000000000000000000 ^ j % 10000000000000000000)))), (6, .int .i64 ((((j + 1) : Nat) : Int) - 1 : Int)), (5, .pointer (some ⟨bd, 0, none⟩)), (4, .int .i64 ((gsz M) - 1 : Nat)), (3, .slice (some ⟨gb, 0, none⟩) (gsz M) gc), (2, .string (bs [])), (0, trimV (some ⟨g, 0, none⟩) (M / 10000000000000000000 ^ (gsz M)) cap)]) hr33 => ?_
      obtain ⟨rq34, rc35, MM32⟩ := hr33
      have MM32 : MemS (fun k => k < w0.heap.size ∧ ∀ x ∈ (g, Obj.cells (cn .u64 (qminB M) ++ rest0) 22) :: O, x.1 ≠ k) w0 wd32 ((bd, .cells (#[.pointer (some ⟨bd, 0, none⟩), .slice rq34 (((decN (M / 10000000000000000000 ^ (j + 1))).length + (List.replicate (19 - (decN (M / 10000000000000000000 ^ j % 10000000000000000000)).length) 48).length) + (decN (M / 10000000000000000000 ^ j % 10000000000000000000)).length) rc35] : Array Value) 74) :: (gb, .cells ((cn .u64 (gleB (gsz M) M)) ++ rg) 22) :: (g, .cells ((cn .u64 (qminB (M / 10000000000000000000 ^ (gsz M)))) ++ rs) 22) :: O) [(.slice rq34 (((decN (M / 10000000000000000000 ^ (j + 1))).length + (List.replicate (19 - (decN (M / 10000000000000000000 ^ j % 10000000000000000000)).length) 48).length) + (decN (M / 10000000000000000000 ^ j % 10000000000000000000)).length) rc35, 5, 1, (((decN (M / 10000000000000000000 ^ (j + 1))).length + (List.replicate (19 - (decN (M / 10000000000000000000 ^ j % 10000000000000000000)).length) 48).length) + (decN (M / 10000000000000000000 ^ j % 10000000000000000000)).length), (((bcells (decN (M / 10000000000000000000 ^ (j + 1)))) ++ bcells (List.replicate (19 - (decN (M / 10000000000000000000 ^ j % 10000000000000000000)).length) 48)) ++ bcells (decN (M / 10000000000000000000 ^ j % 10000000000000000000))))] := MM32
      refine wpl_nil ?_
      refine inb_n (then_n ?_)
      refine rg_seq FF32 MM32 [o_, u_ 4 (.int .i64 (((j : Nat) : Int) - 1 : Int)), o_] [7, 6, 5, 4, 3, 2, 0] (fun Kt => -(9223372036854775808 : Int) ≤ ((((j + 1) : Nat) : Int) - 1) - ((1 : Nat) : Int) ∧ ((((j + 1) : Nat) : Int) - 1) - ((1 : Nat) : Int) < (9223372036854775808 : Nat) ∧ Value.int .i64 (((((j + 1) : Nat) : Int) - 1) - ((1 : Nat) : Int) : Int) = .int .i64 (((j : Nat) : Int) - 1 : Int) ∧ Kt [(6, .int .i64 (((j : Nat) : Int) - 1 : Int)), (7, .string (bs (decN (M / 10000000000000000000 ^ j % 10000000000000000000)))), (5, .pointer (some ⟨bd, 0, none⟩)), (4, .int .i64 ((gsz M) - 1 : Nat)), (3, .slice (some ⟨gb, 0, none⟩) (gsz M) gc), (2, .string (bs [])), (0, trimV (some ⟨g, 0, none⟩) (M / 10000000000000000000 ^ (gsz M)) cap)] ((bd, .cells (#[.pointer (some ⟨bd, 0, none⟩), .slice rq34 (((decN (M / 10000000000000000000 ^ (j + 1))).length + (List.replicate (19 - (decN (M / 10000000000000000000 ^ j % 10000000000000000000)).length) 48).length) + (decN (M / 10000000000000000000 ^ j % 10000000000000000000)).length) rc35] : Array Value) 74) :: (gb, .cells ((cn .u64 (gleB (gsz M) M)) ++ rg) 22) :: (g, .cells ((cn .u64 (qminB (M / 10000000000000000000 ^ (gsz M)))) ++ rs) 22) :: O)) (by kernel_rfl) (fun _ => by kernel_rfl) (⟨(by omega), (by omega), (vZ (by omega)), fun ac36 wd36 FF36 MM36 => ?_⟩)
      have hln : (((decN (M / 10000000000000000000 ^ (j + 1))).length + (List.replicate (19 - (decN (M / 10000000000000000000 ^ j % 10000000000000000000)).length) 48).length) + (decN (M / 10000000000000000000 ^ j % 10000000000000000000)).length) = (decN (M / 10000000000000000000 ^ j)).length := by rw [← hgr]; simp only [List.length_append]
      have MMo : MemS (fun k => k < w0.heap.size ∧ ∀ x ∈ (g, Obj.cells (cn .u64 (qminB M) ++ rest0) 22) :: O, x.1 ≠ k) w0 wd36 ((bd, .cells (#[.pointer (some ⟨bd, 0, none⟩), .slice rq34 (decN (M / 10000000000000000000 ^ j)).length rc35] : Array Value) 74) :: (gb, .cells ((cn .u64 (gleB (gsz M) M)) ++ rg) 22) :: (g, .cells ((cn .u64 (qminB (M / 10000000000000000000 ^ (gsz M)))) ++ rs) 22) :: O) [(.slice rq34 (decN (M / 10000000000000000000 ^ j)).length rc35, 5, 1, (decN (M / 10000000000000000000 ^ j)).length, (bcells (decN (M / 10000000000000000000 ^ j))))] := by have h9 := MM36; rw [bcells_app, bcells_app, hgr, hln] at h9; exact h9
      have hd := cnt_of (FF36.get 0 rfl)
      refine then_n ⟨⟨j, rq34, rc35, by omega, FF36.pick [0, 2, 3, 4, 5, 6], MMo⟩, ?_⟩
      rw [hc, hd]; omega
    · skip
      refine then_n (.inr ⟨(FF24.ev 0 rfl).trans (dec_f hlt), ?_⟩)
      obtain rfl : j = 0 := by omega
      refine then_n ?_
      refine wp_seq (wp_region_list ?_)
      refine st_callM [6, 5, 4, 3, 2, 0, 48] FF24 (d := 48) en_bstring rfl rfl (bstring_any (decN_lt _) (.inl (by rw [e0, decN_len h0]; exact dsz_pos h0)) _ MM24) rfl (by kernel_rfl) (by decide) fun ac37 wd37 (FF37 : Fr 49 ac37 [(48, .string (bs (decN (M / 10000000000000000000 ^ 0)))), (6, .int .i64 (((0 : Nat) : Int) - 1 : Int)), (5, .pointer (some ⟨bd, 0, none⟩)), (4, .int .i64 ((gsz M) - 1 : Nat)), (3, .slice (some ⟨gb, 0, none⟩) (gsz M) gc), (2, .string (bs [])), (0, trimV (some ⟨g, 0, none⟩) (M / 10000000000000000000 ^ (gsz M)) cap)]) hr38 => ?_
      have MM37 : MemS (fun k => k < w0.heap.size ∧ ∀ x ∈ (g, Obj.cells (cn .u64 (qminB M) ++ rest0) 22) :: O, x.1 ≠ k) w0 wd37 ((bd, .cells (#[.pointer (some ⟨bd, 0, none⟩), .slice q (decN (M / 10000000000000000000 ^ 0)).length c] : Array Value) 74) :: (gb, .cells ((cn .u64 (gleB (gsz M) M)) ++ rg) 22) :: (g, .cells ((cn .u64 (qminB (M / 10000000000000000000 ^ (gsz M)))) ++ rs) 22) :: O) [] := hr38
      refine rg_part 1 FF37 MM37 [o_] [6, 5, 4, 3, 2, 0] (fun Kt => Kt [(2, .string (bs (decN (M / 10000000000000000000 ^ 0)))), (6, .int .i64 (((0 : Nat) : Int) - 1 : Int)), (5, .pointer (some ⟨bd, 0, none⟩)), (4, .int .i64 ((gsz M) - 1 : Nat)), (3, .slice (some ⟨gb, 0, none⟩) (gsz M) gc), (0, trimV (some ⟨g, 0, none⟩) (M / 10000000000000000000 ^ (gsz M)) cap)] ((bd, .cells (#[.pointer (some ⟨bd, 0, none⟩), .slice q (decN (M / 10000000000000000000 ^ 0)).length c] : Array Value) 74) :: (gb, .cells ((cn .u64 (gleB (gsz M) M)) ++ rg) 22) :: (g, .cells ((cn .u64 (qminB (M / 10000000000000000000 ^ (gsz M)))) ++ rs) 22) :: O)) (by kernel_rfl) (fun _ => by kernel_rfl) (fun ac39 wd39 FF39 MM39 => ?_)
      refine wpl_nil (then_n ?_)
      refine wp_ret ?_
      repeat first | refine then_ret ?_ | refine inb_ret ?_
      exact (ret_fr FF39 0 Tryd.results32 rfl ⟨congrArg Ending.returned (by rw [e0]), _, MM39.turn (Has.tl H) 2 rfl (fun _ hx => List.mem_cons_of_mem _ (List.mem_cons_of_mem _ (List.mem_cons_of_mem _ (hx))))⟩)

end Go.Proofs.YtcannnmpemnklaaDoor
namespace Go.Proofs.YtcannnmpemnklaaDoor
open Go.RowKit

set_option maxRecDepth 100000 in
theorem digs_nil  (w0 : World) :
    Calls Tryd.prog 32 #[.slice none 0 0] w0 fun e w' => e = .returned (.string (bs [48])) ∧ Below w0.heap.size w0 w' := by
  refine enter_fr Tryd.func32 rfl Tryd.ntmps32 (by simp) fun ac (FF : Fr 49 ac [(0, .slice none 0 0)]) => ?_
  have MM := MemS.start w0
  refine wp_seq (rg_seq FF MM [o_] [0, 2] (fun Kt => Kt [(2, .string (bs [])), (0, .slice none 0 0)] []) (by kernel_rfl) (fun _ => by kernel_rfl) (fun ac1 wd1 FF1 MM1 => then_n ?_))
  refine wp_seq (rg_seq FF1 MM1 [o_] [2, 0, 3] (fun Kt => Kt [(3, .slice none 0 0), (2, .string (bs [])), (0, .slice none 0 0)] []) (by kernel_rfl) (fun _ => by kernel_rfl) (fun ac2 wd2 FF2 MM2 => then_n ?_))
  refine wp_seq ?_
  refine wp_for2w (fun a' w' => Fr 49 a' [(3, .slice none 0 0), (2, .string (bs [])), (0, .slice none 0 0)] ∧ MemS (fun k => k < w0.heap.size) w0 w' [] []) (fun a' _ => 0) ⟨FF2.pick [0, 1, 2], MM2⟩ ?_
  rintro ac3 wd3 ⟨FF3, MM3⟩
  refine rg_seq FF3 MM3 [o_, o_, w_ 3] [3, 2, 0, 10] (fun Kt => ¬ (0 > 0) ∧ Kt [(10, .bool false), (3, .slice none 0 0), (2, .string (bs [])), (0, .slice none 0 0)] []) (by kernel_rfl) (fun _ => by kernel_rfl) (⟨(by decide), fun ac4 wd4 FF4 MM4 => ?_⟩)
  refine then_n (.inr ⟨FF4.ev 0 rfl, ?_⟩)
  refine then_n ?_
  refine wp_seq ?_
  refine wp_seq (rg_seq FF4 MM4 [o_, o_, w_ 2] [3, 2, 0, 20] (fun Kt => 0 = 0 ∧ Kt [(20, .bool true), (3, .slice none 0 0), (2, .string (bs [])), (0, .slice none 0 0)] []) (by kernel_rfl) (fun _ => by kernel_rfl) (⟨(by decide), fun ac5 wd5 FF5 MM5 => then_n ?_⟩))
  refine wp_cond_true (FF5.ev 0 rfl) ?_
  refine wp_seq (rg_seq FF5 MM5 [o_] [3, 2, 0] (fun Kt => Kt [(2, .string (bs [48])), (3, .slice none 0 0), (0, .slice none 0 0)] []) (by kernel_rfl) (fun _ => by kernel_rfl) (fun ac6 wd6 FF6 MM6 => then_n ?_))
  refine wp_ret ?_
  repeat first | refine then_ret ?_ | refine inb_ret ?_
  exact (ret_fr FF6 0 Tryd.results32 rfl ⟨rfl, MM6.below⟩)
set_option maxRecDepth 100000 in
theorem ntext_zero (O : Blks) (hD : Distinct O) (M : Nat) (x : Value) (hM : NatO O (nv M x) M) (hs : qsz M < 1000000) (h0 : M = 0) (w0 : World) (H : Has w0 O) :
    Calls Tryd.prog 13 #[.agg #[nv M x]] w0 fun e w' => e = .returned (.string (bs (decN M))) ∧ Below w0.heap.size w0 w' := by
  refine enter_fr Tryd.func13 rfl Tryd.ntmps13 (by simp) fun ac (FF : Fr 7 ac [(0, .agg (#[nv M x] : Array Value))]) => ?_
  have MM : MemS (fun k => k < w0.heap.size ∧ ∀ x ∈ O, x.1 ≠ k) w0 w0 O [] := MemS.startN H hD
  refine wp_seq (rg_seq FF MM [o_, o_] [1, 2] (fun Kt => ∀ ba, Kt [(2, .string (bs [])), (1, .pointer (some ⟨ba, 0, none⟩))] ((ba, .cells (#[nv M x] : Array Value) 27) :: O)) (by kernel_rfl) (fun _ => by kernel_rfl) (fun ba => fun ac1 wd1 FF1 MM1 => then_n ?_))
  refine wp_seq (wp_region_list ?_)
  refine rg_part 2 FF1 MM1 [o_, l_ 0 (nv M x)] [2, 4] (fun Kt => ba = ba ∧ (#[nv M x] : Array Value)[0]? = some (nv M x) ∧ Kt [(4, nv M x), (2, .string (bs []))] ((ba, .cells (#[nv M x] : Array Value) 27) :: O)) (by kernel_rfl) (fun _ => by kernel_rfl) (⟨rfl, rfl, fun ac2 wd2 FF2 MM2 => ?_⟩)
  refine st_callE [2, 5] FF2 (d := 5) (mk := fun v => nv M v) en_clone rfl rfl (clone_any M x hs _ (hM.at (Has.tl MM2.hasL))) rfl (by kernel_rfl) (by decide) fun ac4 wd4 lv3 (FF4 : Fr 7 ac4 [(5, nv M lv3), (2, .string (bs []))]) hr5 => ?_
  obtain ⟨hB, hcl⟩ := hr5
  have MM6 := MM2.keep hB
  obtain ⟨_, hp, hcp⟩ := hcl.resolve_right (fun h => h.1 h0)
  rw [show nv M lv3 = .slice none 0 0 by rw [nv, hp, hcp, h0]; rfl] at FF4
  refine rg_part 2 FF4 MM6 [t_ (.string (bs (decN M))), o_] [2] (fun Kt => CallP Tryd.prog 32 [.slice none 0 0] [] (.string (bs (decN M))) ∧ Kt [(2, .string (bs (decN M)))] ((ba, .cells (#[nv M x] : Array Value) 27) :: O)) (by kernel_rfl) (fun _ => by kernel_rfl) (⟨(callP_of en_digs (fun w => by have h7 := digs_nil w; rw [h0]; exact h7) _), fun ac7 wd7 FF7 MM7 => ?_⟩)
  refine wpl_nil (then_n ?_)
  refine wp_ret ?_
  repeat first | refine then_ret ?_ | refine inb_ret ?_
  exact (ret_fr FF7 0 Tryd.results13 rfl ⟨rfl, MM7.belowN H (fun _ hx => List.mem_cons_of_mem _ (hx))⟩)
set_option maxRecDepth 100000 in
theorem ntext_pos (O : Blks) (hD : Distinct O) (M : Nat) (x : Value) (hM : NatO O (nv M x) M) (hs : qsz M < 1000000) (hT : TabO O) (h0 : M ≠ 0) (w0 : World) (H : Has w0 O) :
    Calls Tryd.prog 13 #[.agg #[nv M x]] w0 fun e w' => e = .returned (.string (bs (decN M))) ∧ Below w0.heap.size w0 w' := by
  refine enter_fr Tryd.func13 rfl Tryd.ntmps13 (by simp) fun ac (FF : Fr 7 ac [(0, .agg (#[nv M x] : Array Value))]) => ?_
  have MM : MemS (fun k => k < w0.heap.size ∧ ∀ x ∈ O, x.1 ≠ k) w0 w0 O [] := MemS.startN H hD
  refine wp_seq (rg_seq FF MM [o_, o_] [1, 2] (fun Kt => ∀ ba, Kt [(2, .string (bs [])), (1, .pointer (some ⟨ba, 0, none⟩))] ((ba, .cells (#[nv M x] : Array Value) 27) :: O)) (by kernel_rfl) (fun _ => by kernel_rfl) (fun ba => fun ac1 wd1 FF1 MM1 => then_n ?_))
  refine wp_seq (wp_region_list ?_)
  refine rg_part 2 FF1 MM1 [o_, l_ 0 (nv M x)] [2, 4] (fun Kt => ba = ba ∧ (#[nv M x] : Array Value)[0]? = some (nv M x) ∧ Kt [(4, nv M x), (2, .string (bs []))] ((ba, .cells (#[nv M x] : Array Value) 27) :: O)) (by kernel_rfl) (fun _ => by kernel_rfl) (⟨rfl, rfl, fun ac2 wd2 FF2 MM2 => ?_⟩)
  refine st_callE [2, 5] FF2 (d := 5) (mk := fun v => nv M v) en_clone rfl rfl (clone_any M x hs _ (hM.at (Has.tl MM2.hasL))) rfl (by kernel_rfl) (by decide) fun ac4 wd4 lv3 (FF4 : Fr 7 ac4 [(5, nv M lv3), (2, .string (bs []))]) hr5 => ?_
  obtain ⟨hB, hcl⟩ := hr5
  have MM6 := MM2.keep hB
  obtain ⟨_, g, rest, hp, hg, hgb, hsz, hmx⟩ := hcl.resolve_left (fun h => h0 h.1)
  rw [show nv M lv3 = .slice (some ⟨g, 0, none⟩) (qsz M) (cOf lv3) by rw [nv, hp]] at FF4
  have MMg : MemS (fun k => k < w0.heap.size ∧ ∀ x ∈ O, x.1 ≠ k) w0 wd4 ((g, .cells (cn .u64 (qminB M) ++ rest) 22) :: (ba, .cells (#[nv M x] : Array Value) 27) :: O) [] := MM2.addFresh MM6 hgb hg
  refine st_callM [2, 6] FF4 (d := 6) en_digs rfl rfl (digs_main g (cOf lv3) M rest O hT h0 hsz hs _ (MMg.dropAt 1).hasL (distinct_of (apart_iff.1 (MMg.dropAt 1).apart))) rfl (by kernel_rfl) (by decide) fun ac7 wd7 (FF7 : Fr 7 ac7 [(6, .string (bs (decN M))), (2, .string (bs []))]) hr8 => ?_
  obtain ⟨ob9, ht9⟩ := hr8
  have MM7 : MemS (fun k => k < w0.heap.size ∧ ∀ x ∈ O, x.1 ≠ k) w0 wd7 ((g, ob9) :: (ba, .cells (#[nv M x] : Array Value) 27) :: O) [] := MMg.turned ht9
  refine rg_part 1 FF7 MM7 [o_] [2] (fun Kt => Kt [(2, .string (bs (decN M)))] ((g, ob9) :: (ba, .cells (#[nv M x] : Array Value) 27) :: O)) (by kernel_rfl) (fun _ => by kernel_rfl) (fun ac9 wd9 FF9 MM9 => ?_)
  refine wpl_nil (then_n ?_)
  refine wp_ret ?_
  repeat first | refine then_ret ?_ | refine inb_ret ?_
  exact (ret_fr FF9 0 Tryd.results13 rfl ⟨rfl, MM9.belowN H (fun _ hx => List.mem_cons_of_mem _ (List.mem_cons_of_mem _ (hx)))⟩)
theorem ntext_any (M : Nat) (x : Value) (hs : qsz M < 1000000) (w : World) (hT : TabIn w) (hM : NatIn w (nv M x) M) : Calls Tryd.prog 13 #[.agg #[nv M x]] w fun e w' => e = .returned (.string (bs (decN M))) ∧ Below w.heap.size w w' := by
  obtain ⟨O1, g1, g2, g3⟩ := tab_O hT
  obtain ⟨O, h1, h2, h3, h4⟩ := nats_O [(nv M x, M)] (fun y hy => by rw [List.mem_singleton] at hy; subst hy; exact hM) O1 g1 g2
  by_cases h0 : M = 0
  · exact ntext_zero O (distinct_of h2) M x (h3.get 0 rfl) hs h0 w h1
  · exact ntext_pos O (distinct_of h2) M x (h3.get 0 rfl) hs (g3.mono h4) h0 w h1

end Go.Proofs.YtcannnmpemnklaaDoor
namespace Go.Proofs.YtcannnmpemnklaaDoor
open Go.RowKit

theorem en_rtrim : Enters Tryd.prog 31 := fun args w => by simp [go_sem]
theorem en_rdigit : Enters Tryd.prog 37 := fun args w => by simp [go_sem]
theorem en_rbytes : Enters Tryd.prog 10 := fun args w => by simp [go_sem]
theorem en_rof : Enters Tryd.prog 20 := fun args w => by simp [go_sem]
theorem en_radd : Enters Tryd.prog 22 := fun args w => by simp [go_sem]
theorem en_rcmp : Enters Tryd.prog 18 := fun args w => by simp [go_sem]
theorem en_rsub : Enters Tryd.prog 27 := fun args w => by simp [go_sem]
theorem en_rbits : Enters Tryd.prog 16 := fun args w => by simp [go_sem]
theorem en_rlow : Enters Tryd.prog 12 := fun args w => by simp [go_sem]
theorem en_rtext : Enters Tryd.prog 14 := fun args w => by simp [go_sem]
theorem en_rmul : Enters Tryd.prog 23 := fun args w => by simp [go_sem]
theorem en_rpow : Enters Tryd.prog 29 := fun args w => by simp [go_sem]
theorem lies_cn {w : World} {b : Nat} {X : List Nat} {T : TypeId} {fr : Nat × Nat} (h : w.heap[b]? = some (.cells (cn .u8 X) T fr)) : ∀ (j : Nat) u, (bcells X)[j]? = some u → w.cell? ((⟨b, 0, none⟩ : Addr).add j) = some u := fun j u hu => by
  rw [add_off, cell_of h, ← hu, ← bcells_cn]; simp
set_option maxRecDepth 100000 in
theorem trim_any (X : List Nat) (hX : ∀ i, X.getD i 0 < 256) (hl : X.length < 4611686018427387904) (w0 : World) :
    Calls Tryd.prog 31 #[.string (bs X)] w0 fun e w' => e = .returned (.string (bs (minB (leV X)))) ∧ Below w0.heap.size w0 w' := by
  refine enter_fr Tryd.func31 rfl Tryd.ntmps31 (by simp) fun ac (FF : Fr 20 ac [(0, .string (bs X))]) => ?_
  have MM := MemS.start w0
  refine wp_seq (rg_seq FF MM [o_] [0, 2] (fun Kt => Kt [(2, .string (bs [])), (0, .string (bs X))] []) (by kernel_rfl) (fun _ => by kernel_rfl) (fun ac1 wd1 FF1 MM1 => then_n ?_))
  refine wp_seq (rg_seq FF1 MM1 [o_, t_ (.int .i64 (X.length : Nat)), o_] [2, 0, 3] (fun Kt => Value.int .i64 ((bs X).size : Nat) = .int .i64 (X.length : Nat) ∧ Kt [(3, .int .i64 (X.length : Nat)), (2, .string (bs [])), (0, .string (bs X))] []) (by kernel_rfl) (fun _ => by kernel_rfl) (⟨(vI (bs_size _)), fun ac2 wd2 FF2 MM2 => then_n ?_⟩))
  refine wp_seq ?_
  refine wp_for2w (fun a' w' => ∃ n : Nat, n ≤ X.length ∧ (∀ i, n ≤ i → X.getD i 0 = 0) ∧ Fr 20 a' [(3, .int .i64 (n : Nat)), (2, .string (bs [])), (0, .string (bs X))] ∧ MemS (fun k => k < w0.heap.size) w0 w' [] []) (fun a' _ => (cnt 3 a').toNat) ⟨X.length, Nat.le_refl _, (fun _ h => getD_out h), FF2.pick [0, 1, 2], MM2⟩ ?_
  rintro ac3 wd3 ⟨n, hn, h0, FF3, MM3⟩
  have hc := cnt_of (FF3.get 0 rfl)
  by_cases h1 : n > 0
  · by_cases h2 : X.getD (n - 1) 0 = 0
    · skip
      refine rg_seq FF3 MM3 [o_, w_ 2, o_, o_, o_, o_, t_ (.int .u8 (X.getD (n - 1) 0 : Nat)), w_ 2, o_] [3, 2, 0, 14] (fun Kt => n > 0 ∧ 1 ≤ n ∧ n - 1 < 9223372036854775808 ∧ (n - 1) < (bs X).size ∧ (nl (bs X)).getD (n - 1) 0 = X.getD (n - 1) 0 ∧ (X.getD (n - 1) 0) = 0 ∧ Kt [(14, .bool true), (3, .int .i64 (n : Nat)), (2, .string (bs [])), (0, .string (bs X))] []) (by kernel_rfl) (fun _ => by kernel_rfl) (⟨(by omega), (by omega), (by omega), (by simp only [bs_size]; omega), (byte_bs hX _), (by have := hX (n - 1); omega), fun ac4 wd4 FF4 MM4 => ?_⟩)
      refine then_n (.inl ⟨FF4.ev 0 rfl, ?_⟩)
      refine rg_seq FF4 MM4 [o_, o_, o_] [3, 2, 0] (fun Kt => 1 ≤ n ∧ n - 1 < 9223372036854775808 ∧ Kt [(3, .int .i64 (n - 1 : Nat)), (2, .string (bs [])), (0, .string (bs X))] []) (by kernel_rfl) (fun _ => by kernel_rfl) (⟨(by omega), (by omega), fun ac5 wd5 FF5 MM5 => ?_⟩)
      refine inb_n ?_
      have hd := cnt_of (FF5.get 0 rfl)
      refine then_n ⟨⟨n - 1, by omega, fun i hi => (Nat.eq_or_lt_of_le hi).elim (fun e => e ▸ h2) (fun h => h0 i (by omega)), FF5.pick [0, 1, 2], MM5⟩, ?_⟩
      rw [hc, hd]; omega
    · skip
      refine rg_seq FF3 MM3 [o_, w_ 2, o_, o_, o_, o_, t_ (.int .u8 (X.getD (n - 1) 0 : Nat)), w_ 3, o_] [3, 2, 0, 14] (fun Kt => n > 0 ∧ 1 ≤ n ∧ n - 1 < 9223372036854775808 ∧ (n - 1) < (bs X).size ∧ (nl (bs X)).getD (n - 1) 0 = X.getD (n - 1) 0 ∧ ¬ ((X.getD (n - 1) 0) = 0) ∧ Kt [(14, .bool false), (3, .int .i64 (n : Nat)), (2, .string (bs [])), (0, .string (bs X))] []) (by kernel_rfl) (fun _ => by kernel_rfl) (⟨(by omega), (by omega), (by omega), (by simp only [bs_size]; omega), (byte_bs hX _), (by have := hX (n - 1); omega), fun ac6 wd6 FF6 MM6 => ?_⟩)
      refine then_n (.inr ⟨FF6.ev 0 rfl, ?_⟩)
      refine then_n ?_
      refine wp_seq (rg_seq FF6 MM6 [o_, o_, t_ (.string (bs (minB (leV X)))), o_] [3, 2, 0] (fun Kt => 0 ≤ n ∧ n ≤ (bs X).size ∧ Value.string ((bs X).extract 0 n) = .string (bs (minB (leV X))) ∧ Kt [(2, .string (bs (minB (leV X)))), (3, .int .i64 (n : Nat)), (0, .string (bs X))] []) (by kernel_rfl) (fun _ => by kernel_rfl) (⟨(Nat.zero_le _), (by simp only [bs_size]; omega), (vS2 ((bs_extract _ _ _).trans (congrArg bs ((List.drop_zero ..).trans (trim_ok hX hn h0 (by first | exact .inl (by omega) | exact .inr h2)))))), fun ac7 wd7 FF7 MM7 => then_n ?_⟩))
      refine wp_ret ?_
      repeat first | refine then_ret ?_ | refine inb_ret ?_
      exact (ret_fr FF7 0 Tryd.results31 rfl ⟨rfl, MM7.below⟩)
  · skip
    refine rg_seq FF3 MM3 [o_, w_ 3, o_, o_, o_, o_, o_, o_, o_] [3, 2, 0, 14] (fun Kt => ¬ (n > 0) ∧ Kt [(14, .bool false), (3, .int .i64 (n : Nat)), (2, .string (bs [])), (0, .string (bs X))] []) (by kernel_rfl) (fun _ => by kernel_rfl) (⟨(by omega), fun ac8 wd8 FF8 MM8 => ?_⟩)
    refine then_n (.inr ⟨FF8.ev 0 rfl, ?_⟩)
    refine then_n ?_
    refine wp_seq (rg_seq FF8 MM8 [o_, o_, t_ (.string (bs (minB (leV X)))), o_] [3, 2, 0] (fun Kt => 0 ≤ n ∧ n ≤ (bs X).size ∧ Value.string ((bs X).extract 0 n) = .string (bs (minB (leV X))) ∧ Kt [(2, .string (bs (minB (leV X)))), (3, .int .i64 (n : Nat)), (0, .string (bs X))] []) (by kernel_rfl) (fun _ => by kernel_rfl) (⟨(Nat.zero_le _), (by simp only [bs_size]; omega), (vS2 ((bs_extract _ _ _).trans (congrArg bs ((List.drop_zero ..).trans (trim_ok hX hn h0 (by first | exact .inl (by omega) | exact .inr h2)))))), fun ac9 wd9 FF9 MM9 => then_n ?_⟩))
    refine wp_ret ?_
    repeat first | refine then_ret ?_ | refine inb_ret ?_
    exact (ret_fr FF9 0 Tryd.results31 rfl ⟨rfl, MM9.below⟩)
set_option maxRecDepth 100000 in
theorem digit_any (X : List Nat) (hX : ∀ i, X.getD i 0 < 256) (i : Nat) (w0 : World) :
    Calls Tryd.prog 37 #[.string (bs X), .int .i64 (i : Nat)] w0 fun e w' => e = .returned (.int .i64 (X.getD i 0 : Nat)) ∧ Below w0.heap.size w0 w' := by
  refine enter_fr Tryd.func37 rfl Tryd.ntmps37 (by simp) fun ac (FF : Fr 13 ac [(0, .string (bs X)), (1, .int .i64 (i : Nat))]) => ?_
  have MM := MemS.start w0
  refine wp_seq (rg_seq FF MM [o_] [0, 1, 4] (fun Kt => Kt [(4, .int .i64 (0 : Nat)), (0, .string (bs X)), (1, .int .i64 (i : Nat))] []) (by kernel_rfl) (fun _ => by kernel_rfl) (fun ac1 wd1 FF1 MM1 => then_n ?_))
  refine wp_seq ?_
  refine wp_seq (rg_seq FF1 MM1 [o_, o_, t_ (.int .i64 (X.length : Nat)), o_] [4, 0, 1, 8] (fun Kt => Value.int .i64 ((bs X).size : Nat) = .int .i64 (X.length : Nat) ∧ Kt [(8, .bool (decide (i < X.length))), (4, .int .i64 (0 : Nat)), (0, .string (bs X)), (1, .int .i64 (i : Nat))] []) (by kernel_rfl) (fun _ => by kernel_rfl) (⟨(vI (bs_size _)), fun ac2 wd2 FF2 MM2 => then_n ?_⟩))
  by_cases hs8 : i < X.length
  · refine wp_cond_true ((FF2.ev 0 rfl).trans (dec_t hs8)) ?_
    refine wp_seq (rg_seq FF2 MM2 [o_, o_, t_ (.int .u8 (X.getD i 0 : Nat)), w_ 1, o_] [4, 0, 1] (fun Kt => i < (bs X).size ∧ (nl (bs X)).getD i 0 = X.getD i 0 ∧ (X.getD i 0) < 9223372036854775808 ∧ Kt [(4, .int .i64 (X.getD i 0 : Nat)), (0, .string (bs X)), (1, .int .i64 (i : Nat))] []) (by kernel_rfl) (fun _ => by kernel_rfl) (⟨(by simp only [bs_size]; omega), (byte_bs hX _), (by have := hX i; omega), fun ac3 wd3 FF3 MM3 => then_n ?_⟩))
    refine wp_ret ?_
    repeat first | refine then_ret ?_ | refine inb_ret ?_
    exact (ret_fr FF3 0 Tryd.results37 rfl ⟨rfl, MM3.below⟩)
  · refine wp_cond_false ((FF2.ev 0 rfl).trans (dec_f hs8)) ?_
    refine wp_skip ?_
    refine then_n ?_
    refine wp_seq (rg_seq FF2 MM2 [t_ (.int .i64 (X.getD i 0 : Nat))] [4, 0, 1] (fun Kt => Value.int .i64 (0 : Nat) = .int .i64 (X.getD i 0 : Nat) ∧ Kt [(4, .int .i64 (X.getD i 0 : Nat)), (0, .string (bs X)), (1, .int .i64 (i : Nat))] []) (by kernel_rfl) (fun _ => by kernel_rfl) (⟨(vI (getD_out (by omega)).symm), fun ac4 wd4 FF4 MM4 => then_n ?_⟩))
    refine wp_ret ?_
    repeat first | refine then_ret ?_ | refine inb_ret ?_
    exact (ret_fr FF4 0 Tryd.results37 rfl ⟨rfl, MM4.below⟩)
theorem digm_ok (N i : Nat) (L : Blks) : CallP Tryd.prog 37 [.string (bs (minB N)), .int .i64 (i : Nat)] L (.int .i64 (N / 256 ^ i % 256 : Nat)) :=
  callP_of en_rdigit (fun w => by have := digit_any (minB N) (minB_lt N) i w; rwa [minB_get] at this) L
set_option maxRecDepth 100000 in
theorem bytes_any (X : List Nat) (hX : ∀ i, X.getD i 0 < 256) (hl : X.length < 4611686018427387904) (w0 : World) :
    Calls Tryd.prog 10 #[.string (bs X)] w0 fun e w' => e = .returned (.string (bs (minB (leV X)))) ∧ Below w0.heap.size w0 w' := by
  refine enter_fr Tryd.func10 rfl Tryd.ntmps10 (by simp) fun ac (FF : Fr 5 ac [(0, .string (bs X))]) => ?_
  have MM := MemS.start w0
  refine wp_seq (rg_seq FF MM [o_] [0, 2] (fun Kt => Kt [(2, .string (bs [])), (0, .string (bs X))] []) (by kernel_rfl) (fun _ => by kernel_rfl) (fun ac1 wd1 FF1 MM1 => then_n ?_))
  refine wp_seq (rg_seq FF1 MM1 [o_, t_ (.string (bs (minB (leV X)))), o_] [2] (fun Kt => CallP Tryd.prog 31 [.string (bs X)] [] (.string (bs (minB (leV X)))) ∧ Kt [(2, .string (bs (minB (leV X))))] []) (by kernel_rfl) (fun _ => by kernel_rfl) (⟨(callP_of en_rtrim (trim_any X hX (by omega)) _), fun ac2 wd2 FF2 MM2 => then_n ?_⟩))
  refine wp_ret ?_
  repeat first | refine then_ret ?_ | refine inb_ret ?_
  exact (ret_fr FF2 0 Tryd.results10 rfl ⟨rfl, MM2.below⟩)
theorem gen_leB (n v : Nat) : genL n (fun i => v / 256 ^ i % 256) n = leB n v := by
  refine ext_getD (by rw [genL_len, leB_len]) fun i hi => ?_
  rw [genL_len] at hi
  rw [genL_get _ _ _ hi, if_pos hi, leB_get hi]
set_option maxRecDepth 100000 in
theorem of_any (v : Nat) (hv : v < 18446744073709551616) (w0 : World) :
    Calls Tryd.prog 20 #[.int .u64 (v : Nat)] w0 fun e w' => e = .returned (.string (bs (minB v))) ∧ Below w0.heap.size w0 w' := by
  refine enter_fr Tryd.func20 rfl Tryd.ntmps20 (by simp) fun ac (FF : Fr 20 ac [(0, .int .u64 (v : Nat))]) => ?_
  have MM := MemS.start w0
  refine wp_seq (rg_seq FF MM [o_] [0, 2] (fun Kt => Kt [(2, .string (bs [])), (0, .int .u64 (v : Nat))] []) (by kernel_rfl) (fun _ => by kernel_rfl) (fun ac1 wd1 FF1 MM1 => then_n ?_))
  refine wp_seq (rg_seq FF1 MM1 [o_, o_, b_ 0] [2, 0, 3] (fun Kt => ∀ bo, bo = bo ∧ (cn .u8 (List.replicate 8 0)).size = 8 ∧ (cn .u8 (List.replicate 8 0)).size = 8 ∧ (cn .u8 (List.replicate 8 0)).all (·.oneCell') = true ∧ (0, 0).2 = 0 ∧ Kt [(3, .pointer (some ⟨bo, 0, none⟩)), (2, .string (bs [])), (0, .int .u64 (v : Nat))] [(bo, .cells (cn .u8 (List.replicate 8 0)) 67)]) (by kernel_rfl) (fun _ => by kernel_rfl) (fun bo => ⟨rfl, ((cn_size _ _).trans (List.length_replicate ..)), ((cn_size _ _).trans (List.length_replicate ..)), (cn_one _ _), rfl, fun ac2 wd2 FF2 MM2 => then_n ?_⟩))
  have MMr4 : MemS (fun k => k < w0.heap.size) w0 wd2 [(bo, .cells (cn .u8 (genL 8 (fun i => v / 256 ^ i % 256) 0)) 67)] [] := by rw [← genL_zero 8 (fun i => v / 256 ^ i % 256)]; exact MM2
  refine wp_seq ?_
  refine wp_seq (rg_seq FF2 MMr4 [o_] [3, 2, 0, 4] (fun Kt => Kt [(4, .int .i64 (0 : Nat)), (3, .pointer (some ⟨bo, 0, none⟩)), (2, .string (bs [])), (0, .int .u64 (v : Nat))] [(bo, .cells (cn .u8 (genL 8 (fun i => v / 256 ^ i % 256) 0)) 67)]) (by kernel_rfl) (fun _ => by kernel_rfl) (fun ac3 wd3 FF3 MM3 => then_n ?_))
  refine wp_for2 (fun a' w' => ∃ j : Nat, j ≤ 8 ∧ Fr 20 a' [(4, .int .i64 (j : Nat)), (3, .pointer (some ⟨bo, 0, none⟩)), (2, .string (bs [])), (0, .int .u64 (v : Nat))] ∧ MemS (fun k => k < w0.heap.size) w0 w' [(bo, .cells (cn .u8 (genL 8 (fun i => v / 256 ^ i % 256) j)) 67)] []) (fun a' _ => (8 - cnt 4 a').toNat) ⟨0, by omega, FF3.pick [0, 1, 2, 3], MM3⟩ ?_
  rintro ac4 wd4 ⟨j, hj, FF4, MM4⟩
  have hcj := cnt_of (FF4.get 0 rfl)
  refine rg_seq FF4 MM4 [o_, o_] [4, 3, 2, 0, 7] (fun Kt => Kt [(7, .bool (decide (j < 8))), (4, .int .i64 (j : Nat)), (3, .pointer (some ⟨bo, 0, none⟩)), (2, .string (bs [])), (0, .int .u64 (v : Nat))] [(bo, .cells (cn .u8 (genL 8 (fun i => v / 256 ^ i % 256) j)) 67)]) (by kernel_rfl) (fun _ => by kernel_rfl) (fun ac5 wd5 FF5 MM5 => ?_)
  by_cases hltj : j < 8
  · skip
    refine then_n (.inl ⟨(FF5.ev 0 rfl).trans (dec_t hltj), ?_⟩)
    refine rg_seq FF5 MM5 [o_, o_, o_, o_, o_, o_, w_ 1, s_ 0 (.cells (cn .u8 (genL 8 (fun i => v / 256 ^ i % 256) (j + 1))) 67)] [4, 3, 2, 0] (fun Kt => 8 * j < 9223372036854775808 ∧ 8 * j ≤ 64 ∧ j < 8 ∧ bo = bo ∧ j < (cn .u8 (genL 8 (fun i => v / 256 ^ i % 256) j)).size ∧ (((0, 0)).2 = 0 ∨ j < ((0, 0)).1) ∧ (cn .u8 (genL 8 (fun i => v / 256 ^ i % 256) j)).setIfInBounds j (.int .u8 ((v / (2 ^ (8 * j))) % 256 : Nat)) = cn .u8 (genL 8 (fun i => v / 256 ^ i % 256) (j + 1)) ∧ Kt [(4, .int .i64 (j : Nat)), (3, .pointer (some ⟨bo, 0, none⟩)), (2, .string (bs [])), (0, .int .u64 (v : Nat))] [(bo, .cells (cn .u8 (genL 8 (fun i => v / 256 ^ i % 256) (j + 1))) 67)]) (by kernel_rfl) (fun _ => by kernel_rfl) (⟨(by omega), (by omega), (by omega), rfl, (by rw [cn_size, (genL_len _ _ _)]; omega), (.inl rfl), ((cn_set _ _ _ _).trans (congrArg _ (genL_step _ _ j (by omega) (by rw [Nat.pow_mul])))), fun ac6 wd6 FF6 MM6 => ?_⟩)
    refine inb_n (then_n ?_)
    refine rg_seq FF6 MM6 [o_, o_, o_] [4, 3, 2, 0] (fun Kt => j + 1 < 9223372036854775808 ∧ Kt [(4, .int .i64 (j + 1 : Nat)), (3, .pointer (some ⟨bo, 0, none⟩)), (2, .string (bs [])), (0, .int .u64 (v : Nat))] [(bo, .cells (cn .u8 (genL 8 (fun i => v / 256 ^ i % 256) (j + 1))) 67)]) (by kernel_rfl) (fun _ => by kernel_rfl) (⟨(by omega), fun ac7 wd7 FF7 MM7 => ?_⟩)
    have hdj := cnt_of (FF7.get 0 rfl)
    refine then_n ⟨⟨j + 1, by omega, FF7.pick [0, 1, 2, 3], MM7⟩, ?_⟩
    rw [hcj, hdj]; omega
  · skip
    refine then_n (.inr ⟨(FF5.ev 0 rfl).trans (dec_f hltj), ?_⟩)
    obtain rfl : j = 8 := by omega
    have MMl : MemS (fun k => k < w0.heap.size) w0 wd5 [(bo, .cells (cn .u8 (leB 8 v)) 67)] [] := by rw [← gen_leB 8 v]; exact MM5
    refine then_n ?_
    refine wp_seq (rg_seq FF5 MMl [o_, l_ 0 (.string (bs (leB 8 v))), t_ (.string (bs (minB v))), o_] [4, 3, 2, 0] (fun Kt => 0 ≤ 8 ∧ 8 ≤ 8 ∧ 0 < 8 ∧ bo = bo ∧ StrAt (cn .u8 (leB 8 v)) 0 8 (bs (leB 8 v)) ∧ CallP Tryd.prog 31 [.string (bs (leB 8 v))] [] (.string (bs (minB v))) ∧ Kt [(2, .string (bs (minB v))), (4, .int .i64 (8 : Nat)), (3, .pointer (some ⟨bo, 0, none⟩)), (0, .int .u64 (v : Nat))] [(bo, .cells (cn .u8 (leB 8 v)) 67)]) (by kernel_rfl) (fun _ => by kernel_rfl) (⟨(by decide), (by decide), (by decide), rfl, (str_all (leB_len _ _) (leB_lt 8 v)), (by have h0 := callP_of en_rtrim (trim_any (leB 8 v) (leB_lt 8 v) (by rw [leB_len]; decide)) []; rw [leV_leB, Nat.mod_eq_of_lt (show v < 256 ^ 8 from hv)] at h0; exact h0), fun ac8 wd8 FF8 MM8 => then_n ?_⟩))
    refine wp_ret ?_
    repeat first | refine then_ret ?_ | refine inb_ret ?_
    exact (ret_fr FF8 0 Tryd.results20 rfl ⟨rfl, MM8.below⟩)
set_option maxRecDepth 100000 in
theorem add8_any (M N : Nat) (hs : sz M + sz N < 1000000) (w0 : World) :
    Calls Tryd.prog 22 #[.string (bs (minB M)), .string (bs (minB N))] w0 fun e w' => e = .returned (.string (bs (minB (M + N)))) ∧ Below w0.heap.size w0 w' := by
  refine enter_fr Tryd.func22 rfl Tryd.ntmps22 (by simp) fun ac (FF : Fr 43 ac [(0, .string (bs (minB M))), (1, .string (bs (minB N)))]) => ?_
  have MM := MemS.start w0
  refine wp_seq (rg_seq FF MM [o_] [0, 1, 4] (fun Kt => Kt [(4, .string (bs [])), (0, .string (bs (minB M))), (1, .string (bs (minB N)))] []) (by kernel_rfl) (fun _ => by kernel_rfl) (fun ac1 wd1 FF1 MM1 => then_n ?_))
  refine wp_seq (rg_seq FF1 MM1 [o_] [4, 0, 1, 5] (fun Kt => Kt [(5, .slice none 0 0), (4, .string (bs [])), (0, .string (bs (minB M))), (1, .string (bs (minB N)))] []) (by kernel_rfl) (fun _ => by kernel_rfl) (fun ac2 wd2 FF2 MM2 => then_n ?_))
  have MMn := MM2.rowNil 5 1
  refine wp_seq (rg_seq FF2 MMn [t_ (.int .i64 (carB M N 0 : Nat))] [5, 4, 0, 1, 6] (fun Kt => Value.int .i64 (0 : Nat) = .int .i64 (carB M N 0 : Nat) ∧ Kt [(6, .int .i64 (carB M N 0 : Nat)), (5, .slice none 0 0), (4, .string (bs [])), (0, .string (bs (minB M))), (1, .string (bs (minB N)))] []) (by kernel_rfl) (fun _ => by kernel_rfl) (⟨(vI (car_zero M N).symm), fun ac3 wd3 FF3 MM3 => then_n ?_⟩))
  refine wp_seq ?_
  refine wp_seq (rg_seq FF3 MM3 [o_] [6, 5, 4, 0, 1, 7] (fun Kt => Kt [(7, .int .i64 (0 : Nat)), (6, .int .i64 (carB M N 0 : Nat)), (5, .slice none 0 0), (4, .string (bs [])), (0, .string (bs (minB M))), (1, .string (bs (minB N)))] []) (by kernel_rfl) (fun _ => by kernel_rfl) (fun ac4 wd4 FF4 MM4 => then_n ?_))
  refine wp_for2 (fun a' w' => ∃ rv : Value, ∃ i : Nat, i ≤ sz M + sz N + 1 ∧ Fr 43 a' [(7, .int .i64 (i : Nat)), (6, .int .i64 (carB M N i : Nat)), (5, rv), (4, .string (bs [])), (0, .string (bs (minB M))), (1, .string (bs (minB N)))] ∧ MemS (fun k => k < w0.heap.size) w0 w' [] [(rv, 5, 1, i, (bcells (leB i (M + N))))]) (fun a' _ => (sz M + sz N + 1 - cnt 7 a').toNat) ⟨(.slice none 0 0), 0, by omega, FF4.pick [0, 1, 2, 3, 4, 5], MM4⟩ ?_
  rintro ac5 wd5 ⟨rv, i, hi, FF5, MM5⟩
  have hc := cnt_of (FF5.get 0 rfl)
  by_cases h1 : i < sz M
  · skip
    refine rg_seq FF5 MM5 [o_, o_, t_ (.int .i64 (sz M : Nat)), w_ 2, o_, o_, o_, o_, o_, o_, o_, o_, o_, o_] [7, 6, 5, 4, 0, 1, 21] (fun Kt => Value.int .i64 ((bs (minB M)).size : Nat) = .int .i64 (sz M : Nat) ∧ i < (sz M) ∧ Kt [(21, .bool true), (7, .int .i64 (i : Nat)), (6, .int .i64 (carB M N i : Nat)), (5, rv), (4, .string (bs [])), (0, .string (bs (minB M))), (1, .string (bs (minB N)))] []) (by kernel_rfl) (fun _ => by kernel_rfl) (⟨(vI ((bs_size _).trans (minB_len M))), (by omega), fun ac6 wd6 FF6 MM6 => ?_⟩)
    refine then_n (.inl ⟨FF6.ev 0 rfl, ?_⟩)
    refine wp_seq (rg_seq FF6 MM6 [o_, o_, o_, t_ (.int .i64 (M / 256 ^ i % 256 : Nat)), o_, o_, t_ (.int .i64 (N / 256 ^ i % 256 : Nat)), o_, o_, o_] [7, 6, 5, 4, 0, 1] (fun Kt => CallP Tryd.prog 37 [.string (bs (minB M)), .int .i64 (i : Nat)] [] (.int .i64 (M / 256 ^ i % 256 : Nat)) ∧ CallP Tryd.prog 37 [.string (bs (minB N)), .int .i64 (i : Nat)] [] (.int .i64 (N / 256 ^ i % 256 : Nat)) ∧ (M / 256 ^ i % 256) + (N / 256 ^ i % 256) < 9223372036854775808 ∧ (carB M N i) + ((M / 256 ^ i % 256) + (N / 256 ^ i % 256)) < 9223372036854775808 ∧ Kt [(6, .int .i64 ((carB M N i) + ((M / 256 ^ i % 256) + (N / 256 ^ i % 256)) : Nat)), (7, .int .i64 (i : Nat)), (5, rv), (4, .string (bs [])), (0, .string (bs (minB M))), (1, .string (bs (minB N)))] []) (by kernel_rfl) (fun _ => by kernel_rfl) (⟨(digm_ok _ _ _), (digm_ok _ _ _), (by omega), (by have := car_lt M N i; omega), fun ac7 wd7 FF7 MM7 => then_n ?_⟩))
    refine wp_seq (wp_region_list ?_)
    refine rg_part 4 FF7 MM7 [o_, o_, t_ (.int .u8 ((M + N) / 256 ^ i % 256 : Nat)), o_] [6, 7, 5, 4, 0, 1, 33, 36] (fun Kt => Value.int .u8 (((carB M N i) + ((M / 256 ^ i % 256) + (N / 256 ^ i % 256))) % 256 : Nat) = .int .u8 ((M + N) / 256 ^ i % 256 : Nat) ∧ ∀ bq, Kt [(36, .slice (some ⟨bq, 0, none⟩) 1 1), (33, rv), (6, .int .i64 ((carB M N i) + ((M / 256 ^ i % 256) + (N / 256 ^ i % 256)) : Nat)), (7, .int .i64 (i : Nat)), (5, rv), (4, .string (bs [])), (0, .string (bs (minB M))), (1, .string (bs (minB N)))] [(bq, .cells (cn .u8 ([(M + N) / 256 ^ i % 256])) 5)]) (by kernel_rfl) (fun _ => by kernel_rfl) (⟨(vI (car_digit M N i)), fun bq => fun ac8 wd8 FF8 MM8 => ?_⟩)
    refine st_app [6, 7, 5, 4, 0, 1, 37] FF8 MM8 (d := 37) (s := 33) (x := 36) (Y := (bcells [(M + N) / 256 ^ i % 256])) (z := .int .u8 (0 : Nat)) (bb := 1) rfl rfl rfl rfl (lies_cn (MM8.get 0 rfl)) (bcells_one _) (by decide) Tryd.underlying59 (by kernel_rfl) rfl (by decide) (by simp only [maxLen]; omega) (by omega) rfl rfl (by decide) fun ac10 wd10 rv9 (FF10 : Fr 43 ac10 [(37, rv9), (6, .int .i64 ((carB M N i) + ((M / 256 ^ i % 256) + (N / 256 ^ i % 256)) : Nat)), (7, .int .i64 (i : Nat)), (5, rv), (4, .string (bs [])), (0, .string (bs (minB M))), (1, .string (bs (minB N)))]) (MM10 : MemS (fun k => k < w0.heap.size) w0 wd10 [(bq, .cells (cn .u8 ([(M + N) / 256 ^ i % 256])) 5)] [(rv9, 5, 1, (i + 1), ((bcells (leB i (M + N))) ++ (bcells [(M + N) / 256 ^ i % 256])))]) => ?_
    rw [bcells_app, ← leB_succ] at MM10
    refine rg_part 1 FF10 MM10 [o_] [6, 7, 5, 4, 0, 1] (fun Kt => Kt [(5, rv9), (6, .int .i64 ((carB M N i) + ((M / 256 ^ i % 256) + (N / 256 ^ i % 256)) : Nat)), (7, .int .i64 (i : Nat)), (4, .string (bs [])), (0, .string (bs (minB M))), (1, .string (bs (minB N)))] [(bq, .cells (cn .u8 ([(M + N) / 256 ^ i % 256])) 5)]) (by kernel_rfl) (fun _ => by kernel_rfl) (fun ac11 wd11 FF11 MM11 => ?_)
    refine wpl_nil (then_n ?_)
    refine rg_seq FF11 MM11 [o_, t_ (.int .i64 (carB M N (i + 1) : Nat)), o_] [5, 6, 7, 4, 0, 1] (fun Kt => 8 ≤ 64 ∧ Value.int .i64 (((carB M N i) + ((M / 256 ^ i % 256) + (N / 256 ^ i % 256))) / 256 : Nat) = .int .i64 (carB M N (i + 1) : Nat) ∧ Kt [(6, .int .i64 (carB M N (i + 1) : Nat)), (5, rv9), (7, .int .i64 (i : Nat)), (4, .string (bs [])), (0, .string (bs (minB M))), (1, .string (bs (minB N)))] [(bq, .cells (cn .u8 ([(M + N) / 256 ^ i % 256])) 5)]) (by kernel_rfl) (fun _ => by kernel_rfl) (⟨(by decide), (vI (car_step M N i)), fun ac12 wd12 FF12 MM12 => ?_⟩)
    refine inb_n (then_n ?_)
    refine rg_seq FF12 MM12 [o_, o_, o_] [6, 5, 7, 4, 0, 1] (fun Kt => i + 1 < 9223372036854775808 ∧ Kt [(7, .int .i64 (i + 1 : Nat)), (6, .int .i64 (carB M N (i + 1) : Nat)), (5, rv9), (4, .string (bs [])), (0, .string (bs (minB M))), (1, .string (bs (minB N)))] [(bq, .cells (cn .u8 ([(M + N) / 256 ^ i % 256])) 5)]) (by kernel_rfl) (fun _ => by kernel_rfl) (⟨(by omega), fun ac13 wd13 FF13 MM13 => ?_⟩)
    have hd := cnt_of (FF13.get 0 rfl)
    refine then_n ⟨⟨rv9, i + 1, (by first | omega | (have := car_more h3; omega)), FF13.pick [0, 1, 2, 3, 4, 5], MM13.sub [] rfl⟩, ?_⟩
    rw [hc, hd]; first | omega | (have := car_more h3; omega)
  · by_cases h2 : i < sz N
    · skip
      refine rg_seq FF5 MM5 [o_, o_, t_ (.int .i64 (sz M : Nat)), w_ 3, o_, o_, o_, t_ (.int .i64 (sz N : Nat)), w_ 2, o_, o_, o_, o_, o_] [7, 6, 5, 4, 0, 1, 21] (fun Kt => Value.int .i64 ((bs (minB M)).size : Nat) = .int .i64 (sz M : Nat) ∧ ¬ (i < (sz M)) ∧ Value.int .i64 ((bs (minB N)).size : Nat) = .int .i64 (sz N : Nat) ∧ i < (sz N) ∧ Kt [(21, .bool true), (7, .int .i64 (i : Nat)), (6, .int .i64 (carB M N i : Nat)), (5, rv), (4, .string (bs [])), (0, .string (bs (minB M))), (1, .string (bs (minB N)))] []) (by kernel_rfl) (fun _ => by kernel_rfl) (⟨(vI ((bs_size _).trans (minB_len M))), (by omega), (vI ((bs_size _).trans (minB_len N))), (by omega), fun ac14 wd14 FF14 MM14 => ?_⟩)
      refine then_n (.inl ⟨FF14.ev 0 rfl, ?_⟩)
      refine wp_seq (rg_seq FF14 MM14 [o_, o_, o_, t_ (.int .i64 (M / 256 ^ i % 256 : Nat)), o_, o_, t_ (.int .i64 (N / 256 ^ i % 256 : Nat)), o_, o_, o_] [7, 6, 5, 4, 0, 1] (fun Kt => CallP Tryd.prog 37 [.string (bs (minB M)), .int .i64 (i : Nat)] [] (.int .i64 (M / 256 ^ i % 256 : Nat)) ∧ CallP Tryd.prog 37 [.string (bs (minB N)), .int .i64 (i : Nat)] [] (.int .i64 (N / 256 ^ i % 256 : Nat)) ∧ (M / 256 ^ i % 256) + (N / 256 ^ i % 256) < 9223372036854775808 ∧ (carB M N i) + ((M / 256 ^ i % 256) + (N / 256 ^ i % 256)) < 9223372036854775808 ∧ Kt [(6, .int .i64 ((carB M N i) + ((M / 256 ^ i % 256) + (N / 256 ^ i % 256)) : Nat)), (7, .int .i64 (i : Nat)), (5, rv), (4, .string (bs [])), (0, .string (bs (minB M))), (1, .string (bs (minB N)))] []) (by kernel_rfl) (fun _ => by kernel_rfl) (⟨(digm_ok _ _ _), (digm_ok _ _ _), (by omega), (by have := car_lt M N i; omega), fun ac15 wd15 FF15 MM15 => then_n ?_⟩))
      refine wp_seq (wp_region_list ?_)
      refine rg_part 4 FF15 MM15 [o_, o_, t_ (.int .u8 ((M + N) / 256 ^ i % 256 : Nat)), o_] [6, 7, 5, 4, 0, 1, 33, 36] (fun Kt => Value.int .u8 (((carB M N i) + ((M / 256 ^ i % 256) + (N / 256 ^ i % 256))) % 256 : Nat) = .int .u8 ((M + N) / 256 ^ i % 256 : Nat) ∧ ∀ bq, Kt [(36, .slice (some ⟨bq, 0, none⟩) 1 1), (33, rv), (6, .int .i64 ((carB M N i) + ((M / 256 ^ i % 256) + (N / 256 ^ i % 256)) : Nat)), (7, .int .i64 (i : Nat)), (5, rv), (4, .string (bs [])), (0, .string (bs (minB M))), (1, .string (bs (minB N)))] [(bq, .cells (cn .u8 ([(M + N) / 256 ^ i % 256])) 5)]) (by kernel_rfl) (fun _ => by kernel_rfl) (⟨(vI (car_digit M N i)), fun bq => fun ac16 wd16 FF16 MM16 => ?_⟩)
      refine st_app [6, 7, 5, 4, 0, 1, 37] FF16 MM16 (d := 37) (s := 33) (x := 36) (Y := (bcells [(M + N) / 256 ^ i % 256])) (z := .int .u8 (0 : Nat)) (bb := 1) rfl rfl rfl rfl (lies_cn (MM16.get 0 rfl)) (bcells_one _) (by decide) Tryd.underlying59 (by kernel_rfl) rfl (by decide) (by simp only [maxLen]; omega) (by omega) rfl rfl (by decide) fun ac18 wd18 rv17 (FF18 : Fr 43 ac18 [(37, rv17), (6, .int .i64 ((carB M N i) + ((M / 256 ^ i % 256) + (N / 256 ^ i % 256)) : Nat)), (7, .int .i64 (i : Nat)), (5, rv), (4, .string (bs [])), (0, .string (bs (minB M))), (1, .string (bs (minB N)))]) (MM18 : MemS (fun k => k < w0.heap.size) w0 wd18 [(bq, .cells (cn .u8 ([(M + N) / 256 ^ i % 256])) 5)] [(rv17, 5, 1, (i + 1), ((bcells (leB i (M + N))) ++ (bcells [(M + N) / 256 ^ i % 256])))]) => ?_
      rw [bcells_app, ← leB_succ] at MM18
      refine rg_part 1 FF18 MM18 [o_] [6, 7, 5, 4, 0, 1] (fun Kt => Kt [(5, rv17), (6, .int .i64 ((carB M N i) + ((M / 256 ^ i % 256) + (N / 256 ^ i % 256)) : Nat)), (7, .int .i64 (i : Nat)), (4, .string (bs [])), (0, .string (bs (minB M))), (1, .string (bs (minB N)))] [(bq, .cells (cn .u8 ([(M + N) / 256 ^ i % 256])) 5)]) (by kernel_rfl) (fun _ => by kernel_rfl) (fun ac19 wd19 FF19 MM19 => ?_)
      refine wpl_nil (then_n ?_)
      refine rg_seq FF19 MM19 [o_, t_ (.int .i64 (carB M N (i + 1) : Nat)), o_] [5, 6, 7, 4, 0, 1] (fun Kt => 8 ≤ 64 ∧ Value.int .i64 (((carB M N i) + ((M / 256 ^ i % 256) + (N / 256 ^ i % 256))) / 256 : Nat) = .int .i64 (carB M N (i + 1) : Nat) ∧ Kt [(6, .int .i64 (carB M N (i + 1) : Nat)), (5, rv17), (7, .int .i64 (i : Nat)), (4, .string (bs [])), (0, .string (bs (minB M))), (1, .string (bs (minB N)))] [(bq, .cells (cn .u8 ([(M + N) / 256 ^ i % 256])) 5)]) (by kernel_rfl) (fun _ => by kernel_rfl) (⟨(by decide), (vI (car_step M N i)), fun ac20 wd20 FF20 MM20 => ?_⟩)
      refine inb_n (then_n ?_)
      refine rg_seq FF20 MM20 [o_, o_, o_] [6, 5, 7, 4, 0, 1] (fun Kt => i + 1 < 9223372036854775808 ∧ Kt [(7, .int .i64 (i + 1 : Nat)), (6, .int .i64 (carB M N (i + 1) : Nat)), (5, rv17), (4, .string (bs [])), (0, .string (bs (minB M))), (1, .string (bs (minB N)))] [(bq, .cells (cn .u8 ([(M + N) / 256 ^ i % 256])) 5)]) (by kernel_rfl) (fun _ => by kernel_rfl) (⟨(by omega), fun ac21 wd21 FF21 MM21 => ?_⟩)
      have hd := cnt_of (FF21.get 0 rfl)
      refine then_n ⟨⟨rv17, i + 1, (by first | omega | (have := car_more h3; omega)), FF21.pick [0, 1, 2, 3, 4, 5], MM21.sub [] rfl⟩, ?_⟩
      rw [hc, hd]; first | omega | (have := car_more h3; omega)
    · by_cases h3 : carB M N i > 0
      · skip
        refine rg_seq FF5 MM5 [o_, o_, t_ (.int .i64 (sz M : Nat)), w_ 3, o_, o_, o_, t_ (.int .i64 (sz N : Nat)), w_ 3, o_, o_, o_, w_ 2, o_] [7, 6, 5, 4, 0, 1, 21] (fun Kt => Value.int .i64 ((bs (minB M)).size : Nat) = .int .i64 (sz M : Nat) ∧ ¬ (i < (sz M)) ∧ Value.int .i64 ((bs (minB N)).size : Nat) = .int .i64 (sz N : Nat) ∧ ¬ (i < (sz N)) ∧ (carB M N i) > 0 ∧ Kt [(21, .bool true), (7, .int .i64 (i : Nat)), (6, .int .i64 (carB M N i : Nat)), (5, rv), (4, .string (bs [])), (0, .string (bs (minB M))), (1, .string (bs (minB N)))] []) (by kernel_rfl) (fun _ => by kernel_rfl) (⟨(vI ((bs_size _).trans (minB_len M))), (by omega), (vI ((bs_size _).trans (minB_len N))), (by omega), (by have := car_lt M N i; omega), fun ac22 wd22 FF22 MM22 => ?_⟩)
        refine then_n (.inl ⟨FF22.ev 0 rfl, ?_⟩)
        refine wp_seq (rg_seq FF22 MM22 [o_, o_, o_, t_ (.int .i64 (M / 256 ^ i % 256 : Nat)), o_, o_, t_ (.int .i64 (N / 256 ^ i % 256 : Nat)), o_, o_, o_] [7, 6, 5, 4, 0, 1] (fun Kt => CallP Tryd.prog 37 [.string (bs (minB M)), .int .i64 (i : Nat)] [] (.int .i64 (M / 256 ^ i % 256 : Nat)) ∧ CallP Tryd.prog 37 [.string (bs (minB N)), .int .i64 (i : Nat)] [] (.int .i64 (N / 256 ^ i % 256 : Nat)) ∧ (M / 256 ^ i % 256) + (N / 256 ^ i % 256) < 9223372036854775808 ∧ (carB M N i) + ((M / 256 ^ i % 256) + (N / 256 ^ i % 256)) < 9223372036854775808 ∧ Kt [(6, .int .i64 ((carB M N i) + ((M / 256 ^ i % 256) + (N / 256 ^ i % 256)) : Nat)), (7, .int .i64 (i : Nat)), (5, rv), (4, .string (bs [])), (0, .string (bs (minB M))), (1, .string (bs (minB N)))] []) (by kernel_rfl) (fun _ => by kernel_rfl) (⟨(digm_ok _ _ _), (digm_ok _ _ _), (by omega), (by have := car_lt M N i; omega), fun ac23 wd23 FF23 MM23 => then_n ?_⟩))
        refine wp_seq (wp_region_list ?_)
        refine rg_part 4 FF23 MM23 [o_, o_, t_ (.int .u8 ((M + N) / 256 ^ i % 256 : Nat)), o_] [6, 7, 5, 4, 0, 1, 33, 36] (fun Kt => Value.int .u8 (((carB M N i) + ((M / 256 ^ i % 256) + (N / 256 ^ i % 256))) % 256 : Nat) = .int .u8 ((M + N) / 256 ^ i % 256 : Nat) ∧ ∀ bq, Kt [(36, .slice (some ⟨bq, 0, none⟩) 1 1), (33, rv), (6, .int .i64 ((carB M N i) + ((M / 256 ^ i % 256) + (N / 256 ^ i % 256)) : Nat)), (7, .int .i64 (i : Nat)), (5, rv), (4, .string (bs [])), (0, .string (bs (minB M))), (1, .string (bs (minB N)))] [(bq, .cells (cn .u8 ([(M + N) / 256 ^ i % 256])) 5)]) (by kernel_rfl) (fun _ => by kernel_rfl) (⟨(vI (car_digit M N i)), fun bq => fun ac24 wd24 FF24 MM24 => ?_⟩)
        refine st_app [6, 7, 5, 4, 0, 1, 37] FF24 MM24 (d := 37) (s := 33) (x := 36) (Y := (bcells [(M + N) / 256 ^ i % 256])) (z := .int .u8 (0 : Nat)) (bb := 1) rfl rfl rfl rfl (lies_cn (MM24.get 0 rfl)) (bcells_one _) (by decide) Tryd.underlying59 (by kernel_rfl) rfl (by decide) (by simp only [maxLen]; omega) (by omega) rfl rfl (by decide) fun ac26 wd26 rv25 (FF26 : Fr 43 ac26 [(37, rv25), (6, .int .i64 ((carB M N i) + ((M / 256 ^ i % 256) + (N / 256 ^ i % 256)) : Nat)), (7, .int .i64 (i : Nat)), (5, rv), (4, .string (bs [])), (0, .string (bs (minB M))), (1, .string (bs (minB N)))]) (MM26 : MemS (fun k => k < w0.heap.size) w0 wd26 [(bq, .cells (cn .u8 ([(M + N) / 256 ^ i % 256])) 5)] [(rv25, 5, 1, (i + 1), ((bcells (leB i (M + N))) ++ (bcells [(M + N) / 256 ^ i % 256])))]) => ?_
        rw [bcells_app, ← leB_succ] at MM26
        refine rg_part 1 FF26 MM26 [o_] [6, 7, 5, 4, 0, 1] (fun Kt => Kt [(5, rv25), (6, .int .i64 ((carB M N i) + ((M / 256 ^ i % 256) + (N / 256 ^ i % 256)) : Nat)), (7, .int .i64 (i : Nat)), (4, .string (bs [])), (0, .string (bs (minB M))), (1, .string (bs (minB N)))] [(bq, .cells (cn .u8 ([(M + N) / 256 ^ i % 256])) 5)]) (by kernel_rfl) (fun _ => by kernel_rfl) (fun ac27 wd27 FF27 MM27 => ?_)
        refine wpl_nil (then_n ?_)
        refine rg_seq FF27 MM27 [o_, t_ (.int .i64 (carB M N (i + 1) : Nat)), o_] [5, 6, 7, 4, 0, 1] (fun Kt => 8 ≤ 64 ∧ Value.int .i64 (((carB M N i) + ((M / 256 ^ i % 256) + (N / 256 ^ i % 256))) / 256 : Nat) = .int .i64 (carB M N (i + 1) : Nat) ∧ Kt [(6, .int .i64 (carB M N (i + 1) : Nat)), (5, rv25), (7, .int .i64 (i : Nat)), (4, .string (bs [])), (0, .string (bs (minB M))), (1, .string (bs (minB N)))] [(bq, .cells (cn .u8 ([(M + N) / 256 ^ i % 256])) 5)]) (by kernel_rfl) (fun _ => by kernel_rfl) (⟨(by decide), (vI (car_step M N i)), fun ac28 wd28 FF28 MM28 => ?_⟩)
        refine inb_n (then_n ?_)
        refine rg_seq FF28 MM28 [o_, o_, o_] [6, 5, 7, 4, 0, 1] (fun Kt => i + 1 < 9223372036854775808 ∧ Kt [(7, .int .i64 (i + 1 : Nat)), (6, .int .i64 (carB M N (i + 1) : Nat)), (5, rv25), (4, .string (bs [])), (0, .string (bs (minB M))), (1, .string (bs (minB N)))] [(bq, .cells (cn .u8 ([(M + N) / 256 ^ i % 256])) 5)]) (by kernel_rfl) (fun _ => by kernel_rfl) (⟨(by omega), fun ac29 wd29 FF29 MM29 => ?_⟩)
        have hd := cnt_of (FF29.get 0 rfl)
        refine then_n ⟨⟨rv25, i + 1, (by first | omega | (have := car_more h3; omega)), FF29.pick [0, 1, 2, 3, 4, 5], MM29.sub [] rfl⟩, ?_⟩
        rw [hc, hd]; first | omega | (have := car_more h3; omega)
      · skip
        refine rg_seq FF5 MM5 [o_, o_, t_ (.int .i64 (sz M : Nat)), w_ 3, o_, o_, o_, t_ (.int .i64 (sz N : Nat)), w_ 3, o_, o_, o_, w_ 3, o_] [7, 6, 5, 4, 0, 1, 21] (fun Kt => Value.int .i64 ((bs (minB M)).size : Nat) = .int .i64 (sz M : Nat) ∧ ¬ (i < (sz M)) ∧ Value.int .i64 ((bs (minB N)).size : Nat) = .int .i64 (sz N : Nat) ∧ ¬ (i < (sz N)) ∧ ¬ ((carB M N i) > 0) ∧ Kt [(21, .bool false), (7, .int .i64 (i : Nat)), (6, .int .i64 (carB M N i : Nat)), (5, rv), (4, .string (bs [])), (0, .string (bs (minB M))), (1, .string (bs (minB N)))] []) (by kernel_rfl) (fun _ => by kernel_rfl) (⟨(vI ((bs_size _).trans (minB_len M))), (by omega), (vI ((bs_size _).trans (minB_len N))), (by omega), (by have := car_lt M N i; omega), fun ac30 wd30 FF30 MM30 => ?_⟩)
        refine then_n (.inr ⟨FF30.ev 0 rfl, ?_⟩)
        refine then_n ?_
        refine wp_seq (wp_region_list ?_)
        refine rg_part 1 FF30 MM30 [o_] [7, 6, 5, 4, 0, 1, 40] (fun Kt => Kt [(40, rv), (7, .int .i64 (i : Nat)), (6, .int .i64 (carB M N i : Nat)), (5, rv), (4, .string (bs [])), (0, .string (bs (minB M))), (1, .string (bs (minB N)))] []) (by kernel_rfl) (fun _ => by kernel_rfl) (fun ac31 wd31 FF31 MM31 => ?_)
        refine st_strS [7, 6, 5, 4, 0, 1, 41] FF31 MM31 (leB_lt i (M + N)) (d := 41) (s := 40) rfl rfl Tryd.underlying59 Tryd.underlying5 Tryd.underlying9 rfl rfl (by decide) fun ac32 (FF32 : Fr 43 ac32 [(41, .string (bs (leB i (M + N)))), (7, .int .i64 (i : Nat)), (6, .int .i64 (carB M N i : Nat)), (5, rv), (4, .string (bs [])), (0, .string (bs (minB M))), (1, .string (bs (minB N)))]) => ?_
        refine rg_part 2 FF32 MM31 [t_ (.string (bs (minB (M + N)))), o_] [7, 6, 5, 4, 0, 1] (fun Kt => CallP Tryd.prog 31 [.string (bs (leB i (M + N)))] [] (.string (bs (minB (M + N)))) ∧ Kt [(4, .string (bs (minB (M + N)))), (7, .int .i64 (i : Nat)), (6, .int .i64 (carB M N i : Nat)), (5, rv), (0, .string (bs (minB M))), (1, .string (bs (minB N)))] []) (by kernel_rfl) (fun _ => by kernel_rfl) (⟨(by have h0 := callP_of en_rtrim (trim_any (leB i (M + N)) (leB_lt i (M + N)) (by rw [leB_len]; omega)) []; rw [add_val (add_end (by omega) (by omega) (by omega))] at h0; exact h0), fun ac33 wd33 FF33 MM33 => ?_⟩)
        refine wpl_nil (then_n ?_)
        refine wp_ret ?_
        repeat first | refine then_ret ?_ | refine inb_ret ?_
        exact (ret_fr FF33 0 Tryd.results22 rfl ⟨rfl, MM33.below⟩)
set_option maxRecDepth 100000 in
theorem cmp_any (M N : Nat) (hz : sz M + sz N < 1000000) (w0 : World) :
    Calls Tryd.prog 18 #[.string (bs (minB M)), .string (bs (minB N))] w0 fun e w' => e = .returned (.int .i64 (cmpN M N)) ∧ Below w0.heap.size w0 w' := by
  refine enter_fr Tryd.func18 rfl Tryd.ntmps18 (by simp) fun ac (FF : Fr 37 ac [(0, .string (bs (minB M))), (1, .string (bs (minB N)))]) => ?_
  have MM := MemS.start w0
  refine wp_seq (rg_seq FF MM [o_] [0, 1, 4] (fun Kt => Kt [(4, .int .i64 (0 : Nat)), (0, .string (bs (minB M))), (1, .string (bs (minB N)))] []) (by kernel_rfl) (fun _ => by kernel_rfl) (fun ac1 wd1 FF1 MM1 => then_n ?_))
  refine wp_seq ?_
  refine wp_seq (rg_seq FF1 MM1 [o_, t_ (.int .i64 (sz M : Nat)), o_, t_ (.int .i64 (sz N : Nat)), o_] [4, 0, 1, 10] (fun Kt => Value.int .i64 ((bs (minB M)).size : Nat) = .int .i64 (sz M : Nat) ∧ Value.int .i64 ((bs (minB N)).size : Nat) = .int .i64 (sz N : Nat) ∧ Kt [(10, .bool (decide ((sz M) ≠ (sz N)))), (4, .int .i64 (0 : Nat)), (0, .string (bs (minB M))), (1, .string (bs (minB N)))] []) (by kernel_rfl) (fun _ => by kernel_rfl) (⟨(vI ((bs_size _).trans (minB_len M))), (vI ((bs_size _).trans (minB_len N))), fun ac2 wd2 FF2 MM2 => then_n ?_⟩))
  by_cases hs10 : (sz M) ≠ (sz N)
  · refine wp_cond_true ((FF2.ev 0 rfl).trans (dec_t hs10)) ?_
    refine wp_seq ?_
    refine wp_seq (rg_seq FF2 MM2 [o_, t_ (.int .i64 (sz M : Nat)), o_, t_ (.int .i64 (sz N : Nat)), o_] [4, 0, 1, 15] (fun Kt => Value.int .i64 ((bs (minB M)).size : Nat) = .int .i64 (sz M : Nat) ∧ Value.int .i64 ((bs (minB N)).size : Nat) = .int .i64 (sz N : Nat) ∧ Kt [(15, .bool (decide ((sz M) < (sz N)))), (4, .int .i64 (0 : Nat)), (0, .string (bs (minB M))), (1, .string (bs (minB N)))] []) (by kernel_rfl) (fun _ => by kernel_rfl) (⟨(vI ((bs_size _).trans (minB_len M))), (vI ((bs_size _).trans (minB_len N))), fun ac3 wd3 FF3 MM3 => then_n ?_⟩))
    by_cases hs15 : (sz M) < (sz N)
    · refine wp_cond_true ((FF3.ev 0 rfl).trans (dec_t hs15)) ?_
      have hM := cmp_len hs15
      refine wp_seq (rg_seq FF3 MM3 [o_] [4, 0, 1] (fun Kt => Kt [(4, .int .i64 (-1 : Int)), (0, .string (bs (minB M))), (1, .string (bs (minB N)))] []) (by kernel_rfl) (fun _ => by kernel_rfl) (fun ac4 wd4 FF4 MM4 => then_n ?_))
      refine wp_ret ?_
      repeat first | refine then_ret ?_ | refine inb_ret ?_
      exact (ret_fr FF4 0 Tryd.results18 rfl ⟨congrArg (fun z => Ending.returned (Value.int .i64 z)) (cmpm hM), MM4.below⟩)
    · refine wp_cond_false ((FF3.ev 0 rfl).trans (dec_f hs15)) ?_
      have hM := cmp_len (show sz N < sz M by omega)
      refine wp_skip ?_
      refine then_n ?_
      refine wp_seq (rg_seq FF3 MM3 [o_] [4, 0, 1] (fun Kt => Kt [(4, .int .i64 (1 : Nat)), (0, .string (bs (minB M))), (1, .string (bs (minB N)))] []) (by kernel_rfl) (fun _ => by kernel_rfl) (fun ac5 wd5 FF5 MM5 => then_n ?_))
      refine wp_ret ?_
      repeat first | refine then_ret ?_ | refine inb_ret ?_
      exact (ret_fr FF5 0 Tryd.results18 rfl ⟨congrArg (fun z => Ending.returned (Value.int .i64 z)) (cmp1 hM), MM5.below⟩)
  · refine wp_cond_false ((FF2.ev 0 rfl).trans (dec_f hs10)) ?_
    have hs : sz M = sz N := by omega
    refine wp_skip ?_
    refine then_n ?_
    refine wp_seq ?_
    refine wp_seq (rg_seq FF2 MM2 [o_, t_ (.int .i64 (sz M : Nat)), u_ 4 (.int .i64 (((sz M : Nat) : Int) - 1 : Int)), o_] [4, 0, 1, 5] (fun Kt => Value.int .i64 ((bs (minB M)).size : Nat) = .int .i64 (sz M : Nat) ∧ -(9223372036854775808 : Int) ≤ ((sz M : Nat) : Int) - ((1 : Nat) : Int) ∧ ((sz M : Nat) : Int) - ((1 : Nat) : Int) < (9223372036854775808 : Nat) ∧ Value.int .i64 (((sz M : Nat) : Int) - ((1 : Nat) : Int) : Int) = .int .i64 (((sz M : Nat) : Int) - 1 : Int) ∧ Kt [(5, .int .i64 (((sz M : Nat) : Int) - 1 : Int)), (4, .int .i64 (0 : Nat)), (0, .string (bs (minB M))), (1, .string (bs (minB N)))] []) (by kernel_rfl) (fun _ => by kernel_rfl) (⟨(vI ((bs_size _).trans (minB_len M))), (by omega), (by omega), (vZ (by omega)), fun ac6 wd6 FF6 MM6 => then_n ?_⟩))
    refine wp_for2 (fun a' w' => ∃ j : Nat, j ≤ sz M ∧ M / 256 ^ j = N / 256 ^ j ∧ Fr 37 a' [(5, .int .i64 (((j : Nat) : Int) - 1 : Int)), (0, .string (bs (minB M))), (1, .string (bs (minB N)))] ∧ MemS (fun k => k < w0.heap.size) w0 w' [] []) (fun a' _ => (cnt 5 a' + 1).toNat) ⟨sz M, Nat.le_refl _, cmp_top hs, FF6.pick [0, 2, 3], MM6⟩ ?_
    rintro ac7 wd7 ⟨j, hj, hq, FF7, MM7⟩
    have hc := cnt_of (FF7.get 0 rfl)
    refine rg_seq FF7 MM7 [o_, w_ 4] [5, 0, 1, 20] (fun Kt => Kt [(20, .bool (decide ((((j : Nat) : Int) - 1) ≥ ((0 : Nat) : Int)))), (5, .int .i64 (((j : Nat) : Int) - 1 : Int)), (0, .string (bs (minB M))), (1, .string (bs (minB N)))] []) (by kernel_rfl) (fun _ => by kernel_rfl) (fun ac8 wd8 FF8 MM8 => ?_)
    by_cases hlt : (((j : Nat) : Int) - 1) ≥ ((0 : Nat) : Int)
    · skip
      refine then_n (.inl ⟨(FF8.ev 0 rfl).trans (dec_t hlt), ?_⟩)
      obtain ⟨j, rfl⟩ : ∃ z, j = z + 1 := ⟨j - 1, by omega⟩
      refine wp_seq (rg_draw FF8 MM8 [.inl (.string (bs (minB M))), .inl (.int .i64 (j : Nat)), .inl (.int .u8 (M / 256 ^ j % 256 : Nat)), .inl (.string (bs (minB N))), .inl (.int .i64 (j : Nat)), .inl (.int .u8 (N / 256 ^ j % 256 : Nat)), .inl (.bool (decide ((M / 256 ^ j % 256) ≠ (N / 256 ^ j % 256))))] [] [o_, t_ (.int .i64 (j : Nat)), t_ (.int .u8 (M / 256 ^ j % 256 : Nat)), o_, t_ (.int .i64 (j : Nat)), t_ (.int .u8 (N / 256 ^ j % 256 : Nat)), o_] [] [5, 0, 1, 29] (fun nb => [Value.int .i64 ((((j + 1) : Nat) : Int) - 1 : Int) = .int .i64 (j : Nat), j < (bs (minB M)).size, (nl (bs (minB M))).getD j 0 = M / 256 ^ j % 256, Value.int .i64 ((((j + 1) : Nat) : Int) - 1 : Int) = .int .i64 (j : Nat), j < (bs (minB N)).size, (nl (bs (minB N))).getD j 0 = N / 256 ^ j % 256]) (fun nb Kt => Kt [(29, .bool (decide ((M / 256 ^ j % 256) ≠ (N / 256 ^ j % 256)))), (5, .int .i64 ((((j + 1) : Nat) : Int) - 1 : Int)), (0, .string (bs (minB M))), (1, .string (bs (minB N)))] []) (by kernel_rfl) (by kernel_rfl) (by kernel_rfl) (fun _ => by kernel_rfl) (fun _ _ => by kernel_rfl) trivial (fun nb => ⟨(vZ (by omega)), (by simp only [bs_size, minB_len]; omega), ((byte_bs (minB_lt M) _).trans (minB_get M _)), (vZ (by omega)), (by simp only [bs_size, minB_len]; omega), ((byte_bs (minB_lt N) _).trans (minB_get N _)), trivial⟩) (fun nb => fun ac9 wd9 FF9 MM9 => then_n ?_))
      by_cases hs29 : (M / 256 ^ j % 256) ≠ (N / 256 ^ j % 256)
      · refine wp_cond_true ((FF9.ev 0 rfl).trans (dec_t hs29)) ?_
        refine wp_seq ?_
        refine wp_seq (rg_draw FF9 MM9 [.inl (.string (bs (minB M))), .inl (.int .i64 (j : Nat)), .inl (.int .u8 (M / 256 ^ j % 256 : Nat)), .inl (.string (bs (minB N))), .inl (.int .i64 (j : Nat)), .inl (.int .u8 (N / 256 ^ j % 256 : Nat)), .inl (.bool (decide ((M / 256 ^ j % 256) < (N / 256 ^ j % 256))))] [] [o_, t_ (.int .i64 (j : Nat)), t_ (.int .u8 (M / 256 ^ j % 256 : Nat)), o_, t_ (.int .i64 (j : Nat)), t_ (.int .u8 (N / 256 ^ j % 256 : Nat)), o_] [] [5, 0, 1, 36] (fun nb => [Value.int .i64 ((((j + 1) : Nat) : Int) - 1 : Int) = .int .i64 (j : Nat), j < (bs (minB M)).size, (nl (bs (minB M))).getD j 0 = M / 256 ^ j % 256, Value.int .i64 ((((j + 1) : Nat) : Int) - 1 : Int) = .int .i64 (j : Nat), j < (bs (minB N)).size, (nl (bs (minB N))).getD j 0 = N / 256 ^ j % 256]) (fun nb Kt => Kt [(36, .bool (decide ((M / 256 ^ j % 256) < (N / 256 ^ j % 256)))), (5, .int .i64 ((((j + 1) : Nat) : Int) - 1 : Int)), (0, .string (bs (minB M))), (1, .string (bs (minB N)))] []) (by kernel_rfl) (by kernel_rfl) (by kernel_rfl) (fun _ => by kernel_rfl) (fun _ _ => by kernel_rfl) trivial (fun nb => ⟨(vZ (by omega)), (by simp only [bs_size, minB_len]; omega), ((byte_bs (minB_lt M) _).trans (minB_get M _)), (vZ (by omega)), (by simp only [bs_size, minB_len]; omega), ((byte_bs (minB_lt N) _).trans (minB_get N _)), trivial⟩) (fun nb => fun ac10 wd10 FF10 MM10 => then_n ?_))
        by_cases hs36 : (M / 256 ^ j % 256) < (N / 256 ^ j % 256)
        · refine wp_cond_true ((FF10.ev 0 rfl).trans (dec_t hs36)) ?_
          have hM := cmp_lt hq hs36
          refine wp_seq (rg_seq FF10 MM10 [o_] [5, 0, 1, 4] (fun Kt => Kt [(4, .int .i64 (-1 : Int)), (5, .int .i64 ((((j + 1) : Nat) : Int) - 1 : Int)), (0, .string (bs (minB M))), (1, .string (bs (minB N)))] []) (by kernel_rfl) (fun _ => by kernel_rfl) (fun ac11 wd11 FF11 MM11 => then_n ?_))
          refine wp_ret ?_
          repeat first | refine then_ret ?_ | refine inb_ret ?_
          exact (ret_fr FF11 0 Tryd.results18 rfl ⟨congrArg (fun z => Ending.returned (Value.int .i64 z)) (cmpm hM), MM11.below⟩)
        · refine wp_cond_false ((FF10.ev 0 rfl).trans (dec_f hs36)) ?_
          have hM := cmp_lt hq.symm (by omega)
          refine wp_skip ?_
          refine then_n ?_
          refine wp_seq (rg_seq FF10 MM10 [o_] [5, 0, 1, 4] (fun Kt => Kt [(4, .int .i64 (1 : Nat)), (5, .int .i64 ((((j + 1) : Nat) : Int) - 1 : Int)), (0, .string (bs (minB M))), (1, .string (bs (minB N)))] []) (by kernel_rfl) (fun _ => by kernel_rfl) (fun ac12 wd12 FF12 MM12 => then_n ?_))
          refine wp_ret ?_
          repeat first | refine then_ret ?_ | refine inb_ret ?_
          exact (ret_fr FF12 0 Tryd.results18 rfl ⟨congrArg (fun z => Ending.returned (Value.int .i64 z)) (cmp1 hM), MM12.below⟩)
      · refine wp_cond_false ((FF9.ev 0 rfl).trans (dec_f hs29)) ?_
        have hq2 := cmp_eq hq (by omega)
        refine wp_skip ?_
        refine inb_n (then_n ?_)
        refine rg_seq FF9 MM9 [o_, u_ 4 (.int .i64 (((j : Nat) : Int) - 1 : Int)), o_] [5, 0, 1] (fun Kt => -(9223372036854775808 : Int) ≤ ((((j + 1) : Nat) : Int) - 1) - ((1 : Nat) : Int) ∧ ((((j + 1) : Nat) : Int) - 1) - ((1 : Nat) : Int) < (9223372036854775808 : Nat) ∧ Value.int .i64 (((((j + 1) : Nat) : Int) - 1) - ((1 : Nat) : Int) : Int) = .int .i64 (((j : Nat) : Int) - 1 : Int) ∧ Kt [(5, .int .i64 (((j : Nat) : Int) - 1 : Int)), (0, .string (bs (minB M))), (1, .string (bs (minB N)))] []) (by kernel_rfl) (fun _ => by kernel_rfl) (⟨(by omega), (by omega), (vZ (by omega)), fun ac13 wd13 FF13 MM13 => ?_⟩)
        have hd := cnt_of (FF13.get 0 rfl)
        refine then_n ⟨⟨j, by omega, hq2, FF13.pick [0, 1, 2], MM13⟩, ?_⟩
        rw [hc, hd]; omega
    · skip
      refine then_n (.inr ⟨(FF8.ev 0 rfl).trans (dec_f hlt), ?_⟩)
      obtain rfl : j = 0 := by omega
      have hM : M = N := by simpa using hq
      refine then_n ?_
      refine wp_seq (rg_seq FF8 MM8 [o_] [5, 0, 1, 4] (fun Kt => Kt [(4, .int .i64 (0 : Nat)), (5, .int .i64 (((0 : Nat) : Int) - 1 : Int)), (0, .string (bs (minB M))), (1, .string (bs (minB N)))] []) (by kernel_rfl) (fun _ => by kernel_rfl) (fun ac14 wd14 FF14 MM14 => then_n ?_))
      refine wp_ret ?_
      repeat first | refine then_ret ?_ | refine inb_ret ?_
      exact (ret_fr FF14 0 Tryd.results18 rfl ⟨congrArg (fun z => Ending.returned (Value.int .i64 z)) (cmp0 hM), MM14.below⟩)
set_option maxRecDepth 100000 in
theorem sub8_any (M N : Nat) (hz : sz M + sz N < 1000000) (w0 : World) :
    Calls Tryd.prog 27 #[.string (bs (minB M)), .string (bs (minB N))] w0 fun e w' => e = .returned (.tuple #[.string (bs (subN M N)), .bool (decide (N ≤ M))]) ∧ Below w0.heap.size w0 w' := by
  refine enter_fr Tryd.func27 rfl Tryd.ntmps27 (by simp) fun ac (FF : Fr 41 ac [(0, .string (bs (minB M))), (1, .string (bs (minB N)))]) => ?_
  have MM := MemS.start w0
  refine wp_seq (rg_seq FF MM [o_, o_] [0, 1, 4, 5] (fun Kt => Kt [(5, .bool false), (4, .string (bs [])), (0, .string (bs (minB M))), (1, .string (bs (minB N)))] []) (by kernel_rfl) (fun _ => by kernel_rfl) (fun ac1 wd1 FF1 MM1 => then_n ?_))
  refine wp_seq ?_
  refine wp_seq (rg_seq FF1 MM1 [o_, o_, t_ (.int .i64 (cmpN M N : Int)), w_ 4] [5, 4, 0, 1, 13] (fun Kt => CallP Tryd.prog 18 [.string (bs (minB M)), .string (bs (minB N))] [] (.int .i64 (cmpN M N : Int)) ∧ Kt [(13, .bool (decide ((cmpN M N) < ((0 : Nat) : Int)))), (5, .bool false), (4, .string (bs [])), (0, .string (bs (minB M))), (1, .string (bs (minB N)))] []) (by kernel_rfl) (fun _ => by kernel_rfl) (⟨(callP_of en_rcmp (cmp_any M N hz) _), fun ac2 wd2 FF2 MM2 => then_n ?_⟩))
  by_cases hs13 : (cmpN M N) < ((0 : Nat) : Int)
  · refine wp_cond_true ((FF2.ev 0 rfl).trans (dec_t hs13)) ?_
    have hno : ¬ N ≤ M := Nat.not_le.2 ((cmp_neg M N).1 hs13)
    refine wp_seq (rg_seq FF2 MM2 [o_, o_] [5, 4, 0, 1] (fun Kt => Kt [(5, .bool false), (4, .string (bs [])), (0, .string (bs (minB M))), (1, .string (bs (minB N)))] []) (by kernel_rfl) (fun _ => by kernel_rfl) (fun ac3 wd3 FF3 MM3 => then_n ?_))
    refine wp_ret ?_
    repeat first | refine then_ret ?_ | refine inb_ret ?_
    exact (ret_tup2 FF3 1 0 Tryd.results27 rfl rfl ⟨by rw [subN, if_neg hno, decide_eq_false hno], MM3.below⟩)
  · refine wp_cond_false ((FF2.ev 0 rfl).trans (dec_f hs13)) ?_
    have hle : N ≤ M := Nat.le_of_not_lt fun h => hs13 ((cmp_neg M N).2 h)
    refine wp_skip ?_
    refine then_n ?_
    refine wp_seq (rg_seq FF2 MM2 [o_] [5, 4, 0, 1, 6] (fun Kt => Kt [(6, .slice none 0 0), (5, .bool false), (4, .string (bs [])), (0, .string (bs (minB M))), (1, .string (bs (minB N)))] []) (by kernel_rfl) (fun _ => by kernel_rfl) (fun ac4 wd4 FF4 MM4 => then_n ?_))
    have MMn := MM4.rowNil 5 1
    refine wp_seq (rg_seq FF4 MMn [o_] [6, 5, 4, 0, 1, 7] (fun Kt => Kt [(7, .int .i64 (0 : Nat)), (6, .slice none 0 0), (5, .bool false), (4, .string (bs [])), (0, .string (bs (minB M))), (1, .string (bs (minB N)))] []) (by kernel_rfl) (fun _ => by kernel_rfl) (fun ac5 wd5 FF5 MM5 => then_n ?_))
    refine wp_seq ?_
    refine wp_seq (rg_seq FF5 MM5 [o_] [7, 6, 5, 4, 0, 1, 8] (fun Kt => Kt [(8, .int .i64 (0 : Nat)), (7, .int .i64 (0 : Nat)), (6, .slice none 0 0), (5, .bool false), (4, .string (bs [])), (0, .string (bs (minB M))), (1, .string (bs (minB N)))] []) (by kernel_rfl) (fun _ => by kernel_rfl) (fun ac6 wd6 FF6 MM6 => then_n ?_))
    refine wp_for2 (fun a' w' => ∃ rv : Value, ∃ i : Nat, ∃ c : Nat, i ≤ sz M ∧ c = borN M N i ∧ Fr 41 a' [(8, .int .i64 (i : Nat)), (7, .int .i64 (c : Nat)), (6, rv), (5, .bool false), (4, .string (bs [])), (0, .string (bs (minB M))), (1, .string (bs (minB N)))] ∧ MemS (fun k => k < w0.heap.size) w0 w' [] [(rv, 5, 1, i, (bcells (leB i (M - N))))]) (fun a' _ => (sz M - cnt 8 a').toNat) ⟨(.slice none 0 0), 0, 0, by omega, (bor_zero M N).symm, FF6.pick [0, 1, 2, 3, 4, 5, 6], MM6⟩ ?_
    rintro ac7 wd7 ⟨rv, i, c, hi, hbc, FF7, MM7⟩
    have hc := cnt_of (FF7.get 0 rfl)
    refine rg_seq FF7 MM7 [o_, o_, t_ (.int .i64 (sz M : Nat)), o_] [8, 7, 6, 5, 4, 0, 1, 17] (fun Kt => Value.int .i64 ((bs (minB M)).size : Nat) = .int .i64 (sz M : Nat) ∧ Kt [(17, .bool (decide (i < (sz M)))), (8, .int .i64 (i : Nat)), (7, .int .i64 (c : Nat)), (6, rv), (5, .bool false), (4, .string (bs [])), (0, .string (bs (minB M))), (1, .string (bs (minB N)))] []) (by kernel_rfl) (fun _ => by kernel_rfl) (⟨(vI ((bs_size _).trans (minB_len M))), fun ac8 wd8 FF8 MM8 => ?_⟩)
    by_cases hlt : i < (sz M)
    · skip
      refine then_n (.inl ⟨(FF8.ev 0 rfl).trans (dec_t hlt), ?_⟩)
      have hbl := bor_lt M N i
      refine wp_seq (rg_seq FF8 MM8 [o_, o_, t_ (.int .i64 (M / 256 ^ i % 256 : Nat)), o_, o_, t_ (.int .i64 (N / 256 ^ i % 256 : Nat)), w_ 4, o_, w_ 4, o_] [8, 7, 6, 5, 4, 0, 1, 9] (fun Kt => CallP Tryd.prog 37 [.string (bs (minB M)), .int .i64 (i : Nat)] [] (.int .i64 (M / 256 ^ i % 256 : Nat)) ∧ CallP Tryd.prog 37 [.string (bs (minB N)), .int .i64 (i : Nat)] [] (.int .i64 (N / 256 ^ i % 256 : Nat)) ∧ -(9223372036854775808 : Int) ≤ ((M / 256 ^ i % 256 : Nat) : Int) - ((N / 256 ^ i % 256 : Nat) : Int) ∧ ((M / 256 ^ i % 256 : Nat) : Int) - ((N / 256 ^ i % 256 : Nat) : Int) < (9223372036854775808 : Nat) ∧ -(9223372036854775808 : Int) ≤ (((M / 256 ^ i % 256 : Nat) : Int) - ((N / 256 ^ i % 256 : Nat) : Int)) - ((c : Nat) : Int) ∧ (((M / 256 ^ i % 256 : Nat) : Int) - ((N / 256 ^ i % 256 : Nat) : Int)) - ((c : Nat) : Int) < (9223372036854775808 : Nat) ∧ Kt [(9, .int .i64 ((((M / 256 ^ i % 256 : Nat) : Int) - ((N / 256 ^ i % 256 : Nat) : Int)) - ((c : Nat) : Int) : Int)), (8, .int .i64 (i : Nat)), (7, .int .i64 (c : Nat)), (6, rv), (5, .bool false), (4, .string (bs [])), (0, .string (bs (minB M))), (1, .string (bs (minB N)))] []) (by kernel_rfl) (fun _ => by kernel_rfl) (⟨(digm_ok _ _ _), (digm_ok _ _ _), (by omega), (by omega), (by omega), (by omega), fun ac9 wd9 FF9 MM9 => then_n ?_⟩))
      refine wp_seq (rg_seq FF9 MM9 [o_] [9, 8, 7, 6, 5, 4, 0, 1] (fun Kt => Kt [(7, .int .i64 (0 : Nat)), (9, .int .i64 ((((M / 256 ^ i % 256 : Nat) : Int) - ((N / 256 ^ i % 256 : Nat) : Int)) - ((c : Nat) : Int) : Int)), (8, .int .i64 (i : Nat)), (6, rv), (5, .bool false), (4, .string (bs [])), (0, .string (bs (minB M))), (1, .string (bs (minB N)))] []) (by kernel_rfl) (fun _ => by kernel_rfl) (fun ac10 wd10 FF10 MM10 => then_n ?_))
      refine wp_seq ?_
      refine wp_seq (rg_seq FF10 MM10 [o_, w_ 4] [7, 9, 8, 6, 5, 4, 0, 1, 30] (fun Kt => Kt [(30, .bool (decide (((((M / 256 ^ i % 256 : Nat) : Int) - ((N / 256 ^ i % 256 : Nat) : Int)) - ((c : Nat) : Int)) < ((0 : Nat) : Int)))), (7, .int .i64 (0 : Nat)), (9, .int .i64 ((((M / 256 ^ i % 256 : Nat) : Int) - ((N / 256 ^ i % 256 : Nat) : Int)) - ((c : Nat) : Int) : Int)), (8, .int .i64 (i : Nat)), (6, rv), (5, .bool false), (4, .string (bs [])), (0, .string (bs (minB M))), (1, .string (bs (minB N)))] []) (by kernel_rfl) (fun _ => by kernel_rfl) (fun ac11 wd11 FF11 MM11 => then_n ?_))
      by_cases hs30 : ((((M / 256 ^ i % 256 : Nat) : Int) - ((N / 256 ^ i % 256 : Nat) : Int)) - ((c : Nat) : Int)) < ((0 : Nat) : Int)
      · refine wp_cond_true ((FF11.ev 0 rfl).trans (dec_t hs30)) ?_
        have hq := sub_neg hle (i := i) (by omega)
        refine wp_seq (rg_seq FF11 MM11 [o_, u_ 4 (.int .i64 ((M - N) / 256 ^ i % 256 : Nat)), o_] [7, 9, 8, 6, 5, 4, 0, 1] (fun Kt => -(9223372036854775808 : Int) ≤ ((((M / 256 ^ i % 256 : Nat) : Int) - ((N / 256 ^ i % 256 : Nat) : Int)) - ((c : Nat) : Int)) + ((256 : Nat) : Int) ∧ ((((M / 256 ^ i % 256 : Nat) : Int) - ((N / 256 ^ i % 256 : Nat) : Int)) - ((c : Nat) : Int)) + ((256 : Nat) : Int) < (9223372036854775808 : Nat) ∧ Value.int .i64 (((((M / 256 ^ i % 256 : Nat) : Int) - ((N / 256 ^ i % 256 : Nat) : Int)) - ((c : Nat) : Int)) + ((256 : Nat) : Int) : Int) = .int .i64 ((M - N) / 256 ^ i % 256 : Nat) ∧ Kt [(9, .int .i64 ((M - N) / 256 ^ i % 256 : Nat)), (7, .int .i64 (0 : Nat)), (8, .int .i64 (i : Nat)), (6, rv), (5, .bool false), (4, .string (bs [])), (0, .string (bs (minB M))), (1, .string (bs (minB N)))] []) (by kernel_rfl) (fun _ => by kernel_rfl) (⟨(by omega), (by omega), (vZ (by omega)), fun ac12 wd12 FF12 MM12 => then_n ?_⟩))
        refine rg_seq FF12 MM12 [o_] [9, 7, 8, 6, 5, 4, 0, 1] (fun Kt => Kt [(7, .int .i64 (1 : Nat)), (9, .int .i64 ((M - N) / 256 ^ i % 256 : Nat)), (8, .int .i64 (i : Nat)), (6, rv), (5, .bool false), (4, .string (bs [])), (0, .string (bs (minB M))), (1, .string (bs (minB N)))] []) (by kernel_rfl) (fun _ => by kernel_rfl) (fun ac13 wd13 FF13 MM13 => ?_)
        refine then_n ?_
        refine wp_region_list ?_
        refine rg_part 4 FF13 MM13 [o_, t_ (.int .i64 ((M - N) / 256 ^ i % 256 : Nat)), t_ (.int .u8 ((M - N) / 256 ^ i % 256 : Nat)), o_] [7, 9, 8, 6, 5, 4, 0, 1, 33, 36] (fun Kt => Value.int .i64 ((M - N) / 256 ^ i % 256 : Nat) = .int .i64 ((M - N) / 256 ^ i % 256 : Nat) ∧ Value.int .u8 (((M - N) / 256 ^ i % 256) % 256 : Nat) = .int .u8 ((M - N) / 256 ^ i % 256 : Nat) ∧ ∀ bq, Kt [(36, .slice (some ⟨bq, 0, none⟩) 1 1), (33, rv), (7, .int .i64 (1 : Nat)), (9, .int .i64 ((M - N) / 256 ^ i % 256 : Nat)), (8, .int .i64 (i : Nat)), (6, rv), (5, .bool false), (4, .string (bs [])), (0, .string (bs (minB M))), (1, .string (bs (minB N)))] [(bq, .cells (cn .u8 ([(M - N) / 256 ^ i % 256])) 5)]) (by kernel_rfl) (fun _ => by kernel_rfl) (⟨(vZ (by omega)), (vI (Nat.mod_mod _ _)), fun bq => fun ac14 wd14 FF14 MM14 => ?_⟩)
        refine st_app [7, 9, 8, 6, 5, 4, 0, 1, 37] FF14 MM14 (d := 37) (s := 33) (x := 36) (Y := (bcells [(M - N) / 256 ^ i % 256])) (z := .int .u8 (0 : Nat)) (bb := 1) rfl rfl rfl rfl (lies_cn (MM14.get 0 rfl)) (bcells_one _) (by decide) Tryd.underlying59 (by kernel_rfl) rfl (by decide) (by simp only [maxLen]; omega) (by omega) rfl rfl (by decide) fun ac16 wd16 rv15 (FF16 : Fr 41 ac16 [(37, rv15), (7, .int .i64 (1 : Nat)), (9, .int .i64 ((M - N) / 256 ^ i % 256 : Nat)), (8, .int .i64 (i : Nat)), (6, rv), (5, .bool false), (4, .string (bs [])), (0, .string (bs (minB M))), (1, .string (bs (minB N)))]) (MM16 : MemS (fun k => k < w0.heap.size) w0 wd16 [(bq, .cells (cn .u8 ([(M - N) / 256 ^ i % 256])) 5)] [(rv15, 5, 1, (i + 1), ((bcells (leB i (M - N))) ++ (bcells [(M - N) / 256 ^ i % 256])))]) => ?_
        rw [bcells_app, ← leB_succ] at MM16
        refine rg_part 1 FF16 MM16 [o_] [7, 9, 8, 6, 5, 4, 0, 1] (fun Kt => Kt [(6, rv15), (7, .int .i64 (1 : Nat)), (9, .int .i64 ((M - N) / 256 ^ i % 256 : Nat)), (8, .int .i64 (i : Nat)), (5, .bool false), (4, .string (bs [])), (0, .string (bs (minB M))), (1, .string (bs (minB N)))] [(bq, .cells (cn .u8 ([(M - N) / 256 ^ i % 256])) 5)]) (by kernel_rfl) (fun _ => by kernel_rfl) (fun ac17 wd17 FF17 MM17 => ?_)
        refine wpl_nil ?_
        refine inb_n (then_n ?_)
        refine rg_seq FF17 MM17 [o_, o_, o_] [6, 7, 9, 8, 5, 4, 0, 1] (fun Kt => i + 1 < 9223372036854775808 ∧ Kt [(8, .int .i64 (i + 1 : Nat)), (6, rv15), (7, .int .i64 (1 : Nat)), (9, .int .i64 ((M - N) / 256 ^ i % 256 : Nat)), (5, .bool false), (4, .string (bs [])), (0, .string (bs (minB M))), (1, .string (bs (minB N)))] [(bq, .cells (cn .u8 ([(M - N) / 256 ^ i % 256])) 5)]) (by kernel_rfl) (fun _ => by kernel_rfl) (⟨(by omega), fun ac18 wd18 FF18 MM18 => ?_⟩)
        have hd := cnt_of (FF18.get 0 rfl)
        refine then_n ⟨⟨rv15, i + 1, 1, by omega, hq.2.symm, FF18.pick [0, 2, 1, 4, 5, 6, 7], MM18.sub [] rfl⟩, ?_⟩
        rw [hc, hd]; omega
      · refine wp_cond_false ((FF11.ev 0 rfl).trans (dec_f hs30)) ?_
        have hq := sub_pos hle (i := i) (by omega)
        refine wp_skip ?_
        refine then_n ?_
        refine wp_region_list ?_
        refine rg_part 4 FF11 MM11 [o_, t_ (.int .i64 ((M - N) / 256 ^ i % 256 : Nat)), t_ (.int .u8 ((M - N) / 256 ^ i % 256 : Nat)), o_] [7, 9, 8, 6, 5, 4, 0, 1, 33, 36] (fun Kt => Value.int .i64 ((((M / 256 ^ i % 256 : Nat) : Int) - ((N / 256 ^ i % 256 : Nat) : Int)) - ((c : Nat) : Int) : Int) = .int .i64 ((M - N) / 256 ^ i % 256 : Nat) ∧ Value.int .u8 (((M - N) / 256 ^ i % 256) % 256 : Nat) = .int .u8 ((M - N) / 256 ^ i % 256 : Nat) ∧ ∀ bq, Kt [(36, .slice (some ⟨bq, 0, none⟩) 1 1), (33, rv), (7, .int .i64 (0 : Nat)), (9, .int .i64 ((((M / 256 ^ i % 256 : Nat) : Int) - ((N / 256 ^ i % 256 : Nat) : Int)) - ((c : Nat) : Int) : Int)), (8, .int .i64 (i : Nat)), (6, rv), (5, .bool false), (4, .string (bs [])), (0, .string (bs (minB M))), (1, .string (bs (minB N)))] [(bq, .cells (cn .u8 ([(M - N) / 256 ^ i % 256])) 5)]) (by kernel_rfl) (fun _ => by kernel_rfl) (⟨(vZ (by omega)), (vI (Nat.mod_mod _ _)), fun bq => fun ac19 wd19 FF19 MM19 => ?_⟩)
        refine st_app [7, 9, 8, 6, 5, 4, 0, 1, 37] FF19 MM19 (d := 37) (s := 33) (x := 36) (Y := (bcells [(M - N) / 256 ^ i % 256])) (z := .int .u8 (0 : Nat)) (bb := 1) rfl rfl rfl rfl (lies_cn (MM19.get 0 rfl)) (bcells_one _) (by decide) Tryd.underlying59 (by kernel_rfl) rfl (by decide) (by simp only [maxLen]; omega) (by omega) rfl rfl (by decide) fun ac21 wd21 rv20 (FF21 : Fr 41 ac21 [(37, rv20), (7, .int .i64 (0 : Nat)), (9, .int .i64 ((((M / 256 ^ i % 256 : Nat) : Int) - ((N / 256 ^ i % 256 : Nat) : Int)) - ((c : Nat) : Int) : Int)), (8, .int .i64 (i : Nat)), (6, rv), (5, .bool false), (4, .string (bs [])), (0, .string (bs (minB M))), (1, .string (bs (minB N)))]) (MM21 : MemS (fun k => k < w0.heap.size) w0 wd21 [(bq, .cells (cn .u8 ([(M - N) / 256 ^ i % 256])) 5)] [(rv20, 5, 1, (i + 1), ((bcells (leB i (M - N))) ++ (bcells [(M - N) / 256 ^ i % 256])))]) => ?_
        rw [bcells_app, ← leB_succ] at MM21
        refine rg_part 1 FF21 MM21 [o_] [7, 9, 8, 6, 5, 4, 0, 1] (fun Kt => Kt [(6, rv20), (7, .int .i64 (0 : Nat)), (9, .int .i64 ((((M / 256 ^ i % 256 : Nat) : Int) - ((N / 256 ^ i % 256 : Nat) : Int)) - ((c : Nat) : Int) : Int)), (8, .int .i64 (i : Nat)), (5, .bool false), (4, .string (bs [])), (0, .string (bs (minB M))), (1, .string (bs (minB N)))] [(bq, .cells (cn .u8 ([(M - N) / 256 ^ i % 256])) 5)]) (by kernel_rfl) (fun _ => by kernel_rfl) (fun ac22 wd22 FF22 MM22 => ?_)
        refine wpl_nil ?_
        refine inb_n (then_n ?_)
        refine rg_seq FF22 MM22 [o_, o_, o_] [6, 7, 9, 8, 5, 4, 0, 1] (fun Kt => i + 1 < 9223372036854775808 ∧ Kt [(8, .int .i64 (i + 1 : Nat)), (6, rv20), (7, .int .i64 (0 : Nat)), (9, .int .i64 ((((M / 256 ^ i % 256 : Nat) : Int) - ((N / 256 ^ i % 256 : Nat) : Int)) - ((c : Nat) : Int) : Int)), (5, .bool false), (4, .string (bs [])), (0, .string (bs (minB M))), (1, .string (bs (minB N)))] [(bq, .cells (cn .u8 ([(M - N) / 256 ^ i % 256])) 5)]) (by kernel_rfl) (fun _ => by kernel_rfl) (⟨(by omega), fun ac23 wd23 FF23 MM23 => ?_⟩)
        have hd := cnt_of (FF23.get 0 rfl)
        refine then_n ⟨⟨rv20, i + 1, 0, by omega, hq.2.symm, FF23.pick [0, 2, 1, 4, 5, 6, 7], MM23.sub [] rfl⟩, ?_⟩
        rw [hc, hd]; omega
    · skip
      refine then_n (.inr ⟨(FF8.ev 0 rfl).trans (dec_f hlt), ?_⟩)
      have hend : M - N < 256 ^ i := Nat.lt_of_le_of_lt (Nat.sub_le _ _) (lt_sz (by omega))
      refine then_n ?_
      refine wp_seq (wp_region_list ?_)
      refine rg_part 1 FF8 MM8 [o_] [8, 7, 6, 5, 4, 0, 1, 38] (fun Kt => Kt [(38, rv), (8, .int .i64 (i : Nat)), (7, .int .i64 (c : Nat)), (6, rv), (5, .bool false), (4, .string (bs [])), (0, .string (bs (minB M))), (1, .string (bs (minB N)))] []) (by kernel_rfl) (fun _ => by kernel_rfl) (fun ac24 wd24 FF24 MM24 => ?_)
      refine st_strS [8, 7, 6, 5, 4, 0, 1, 39] FF24 MM24 (leB_lt i (M - N)) (d := 39) (s := 38) rfl rfl Tryd.underlying59 Tryd.underlying5 Tryd.underlying9 rfl rfl (by decide) fun ac25 (FF25 : Fr 41 ac25 [(39, .string (bs (leB i (M - N)))), (8, .int .i64 (i : Nat)), (7, .int .i64 (c : Nat)), (6, rv), (5, .bool false), (4, .string (bs [])), (0, .string (bs (minB M))), (1, .string (bs (minB N)))]) => ?_
      refine rg_part 3 FF25 MM24 [t_ (.string (bs (minB (M - N)))), o_, o_] [8, 7, 6, 5, 4, 0, 1] (fun Kt => CallP Tryd.prog 31 [.string (bs (leB i (M - N)))] [] (.string (bs (minB (M - N)))) ∧ Kt [(5, .bool true), (4, .string (bs (minB (M - N)))), (8, .int .i64 (i : Nat)), (7, .int .i64 (c : Nat)), (6, rv), (0, .string (bs (minB M))), (1, .string (bs (minB N)))] []) (by kernel_rfl) (fun _ => by kernel_rfl) (⟨(by have h0 := callP_of en_rtrim (trim_any (leB i (M - N)) (leB_lt i (M - N)) (by rw [leB_len]; omega)) []; rw [leV_leB, Nat.mod_eq_of_lt hend] at h0; exact h0), fun ac26 wd26 FF26 MM26 => ?_⟩)
      refine wpl_nil (then_n ?_)
      refine wp_ret ?_
      repeat first | refine then_ret ?_ | refine inb_ret ?_
      exact (ret_tup2 FF26 1 0 Tryd.results27 rfl rfl ⟨by rw [subN, if_pos hle, decide_eq_true hle], MM26.below⟩)

end Go.Proofs.YtcannnmpemnklaaDoor
namespace Go.Proofs.YtcannnmpemnklaaDoor
open Go.RowKit

theorem bsz_half {x : Nat} (h : 0 < x) : bsz x = 1 + bsz (x / 2) := by
  rcases Nat.lt_or_ge x 2 with h2 | h2
  · obtain rfl : x = 1 := by omega
    rfl
  · exact bsz_div (k := 1) h2
theorem bits8_top {M : Nat} (h : ¬ sz M = 0) : 8 * (sz M - 1) + bsz (M / 256 ^ (sz M - 1) % 256) = bsz M := by
  have h2 := (sz_ok M).2.resolve_left h
  have e : 256 ^ (sz M - 1) = 2 ^ (8 * (sz M - 1)) := by rw [show 256 = 2 ^ 8 by rfl, ← Nat.pow_mul]
  have h1 := (sz_ok M).1
  have e2 : 256 ^ sz M = 256 ^ (sz M - 1) * 256 := by rw [← Nat.pow_succ]; congr 1; omega
  rw [bsz_div (k := 8 * (sz M - 1)) (x := M) (by rw [← e]; exact h2), ← e, Nat.mod_eq_of_lt (Nat.div_lt_of_lt_mul (by rw [← e2]; exact h1))]
theorem sz0 {M : Nat} (h : sz M = 0) : M = 0 := by have := (sz_ok M).1; rw [h] at this; simpa using this
theorem bsz_sz (M : Nat) : bsz M ≤ 8 * sz M := bsz_le (by have := (sz_ok M).1; rwa [show 256 = 2 ^ 8 by rfl, ← Nat.pow_mul] at this)
set_option maxRecDepth 100000 in
theorem bits8_any (N : Nat) (hz : sz N < 1000000) (w0 : World) :
    Calls Tryd.prog 16 #[.string (bs (minB N))] w0 fun e w' => e = .returned (.int .i64 (bsz N : Nat)) ∧ Below w0.heap.size w0 w' := by
  refine enter_fr Tryd.func16 rfl Tryd.ntmps16 (by simp) fun ac (FF : Fr 24 ac [(0, .string (bs (minB N)))]) => ?_
  have MM := MemS.start w0
  refine wp_seq (rg_seq FF MM [o_] [0, 2] (fun Kt => Kt [(2, .int .i64 (0 : Nat)), (0, .string (bs (minB N)))] []) (by kernel_rfl) (fun _ => by kernel_rfl) (fun ac1 wd1 FF1 MM1 => then_n ?_))
  refine wp_seq ?_
  refine wp_seq (rg_seq FF1 MM1 [o_, t_ (.int .i64 (sz N : Nat)), o_] [2, 0, 7] (fun Kt => Value.int .i64 ((bs (minB N)).size : Nat) = .int .i64 (sz N : Nat) ∧ Kt [(7, .bool (decide ((sz N) = 0))), (2, .int .i64 (0 : Nat)), (0, .string (bs (minB N)))] []) (by kernel_rfl) (fun _ => by kernel_rfl) (⟨(vI ((bs_size _).trans (minB_len N))), fun ac2 wd2 FF2 MM2 => then_n ?_⟩))
  by_cases hs7 : (sz N) = 0
  · refine wp_cond_true ((FF2.ev 0 rfl).trans (dec_t hs7)) ?_
    refine wp_seq (rg_seq FF2 MM2 [o_] [2, 0] (fun Kt => Kt [(2, .int .i64 (0 : Nat)), (0, .string (bs (minB N)))] []) (by kernel_rfl) (fun _ => by kernel_rfl) (fun ac3 wd3 FF3 MM3 => then_n ?_))
    refine wp_ret ?_
    repeat first | refine then_ret ?_ | refine inb_ret ?_
    exact (ret_fr FF3 0 Tryd.results16 rfl ⟨congrArg (fun z : Nat => Ending.returned (Value.int .i64 (z : Int))) ((by rw [sz0 hs7]; rfl)), MM3.below⟩)
  · refine wp_cond_false ((FF2.ev 0 rfl).trans (dec_f hs7)) ?_
    have hb := bsz_sz N
    have ht : N / 256 ^ (sz N - 1) % 256 < 256 := Nat.mod_lt _ (by decide)
    refine wp_skip ?_
    refine then_n ?_
    refine wp_seq (rg_seq FF2 MM2 [o_, t_ (.int .i64 (sz N : Nat)), o_, o_, o_] [2, 0, 3] (fun Kt => Value.int .i64 ((bs (minB N)).size : Nat) = .int .i64 (sz N : Nat) ∧ 1 ≤ (sz N) ∧ (sz N) - 1 < 9223372036854775808 ∧ 8 * ((sz N) - 1) < 9223372036854775808 ∧ Kt [(3, .int .i64 (8 * ((sz N) - 1) : Nat)), (2, .int .i64 (0 : Nat)), (0, .string (bs (minB N)))] []) (by kernel_rfl) (fun _ => by kernel_rfl) (⟨(vI ((bs_size _).trans (minB_len N))), (by omega), (by omega), (by omega), fun ac4 wd4 FF4 MM4 => then_n ?_⟩))
    refine wp_seq ?_
    refine wp_seq (rg_seq FF4 MM4 [o_, o_, t_ (.int .i64 (sz N : Nat)), o_, t_ (.int .u8 (N / 256 ^ (sz N - 1) % 256 : Nat)), o_] [3, 2, 0, 4] (fun Kt => Value.int .i64 ((bs (minB N)).size : Nat) = .int .i64 (sz N : Nat) ∧ 1 ≤ (sz N) ∧ (sz N) - 1 < 9223372036854775808 ∧ ((sz N) - 1) < (bs (minB N)).size ∧ (nl (bs (minB N))).getD ((sz N) - 1) 0 = N / 256 ^ (sz N - 1) % 256 ∧ Kt [(4, .int .u8 (N / 256 ^ (sz N - 1) % 256 : Nat)), (3, .int .i64 (8 * ((sz N) - 1) : Nat)), (2, .int .i64 (0 : Nat)), (0, .string (bs (minB N)))] []) (by kernel_rfl) (fun _ => by kernel_rfl) (⟨(vI ((bs_size _).trans (minB_len N))), (by omega), (by omega), (by simp only [bs_size, minB_len]; omega), ((byte_bs (minB_lt N) _).trans (minB_get N _)), fun ac5 wd5 FF5 MM5 => then_n ?_⟩))
    refine wp_for2 (fun a' w' => ∃ x : Nat, ∃ c : Nat, x < 256 ∧ c + bsz x = bsz N ∧ Fr 24 a' [(4, .int .u8 (x : Nat)), (3, .int .i64 (c : Nat)), (2, .int .i64 (0 : Nat)), (0, .string (bs (minB N)))] ∧ MemS (fun k => k < w0.heap.size) w0 w' [] []) (fun a' _ => (cnt 4 a').toNat) ⟨N / 256 ^ (sz N - 1) % 256, 8 * (sz N - 1), ht, bits8_top hs7, FF5.pick [0, 1, 2, 3], MM5⟩ ?_
    rintro ac6 wd6 ⟨x, c, hx, hc, FF6, MM6⟩
    have hq := cnt_of (FF6.get 0 rfl)
    refine rg_seq FF6 MM6 [o_, o_] [4, 3, 2, 0, 18] (fun Kt => Kt [(18, .bool (decide (x > 0))), (4, .int .u8 (x : Nat)), (3, .int .i64 (c : Nat)), (2, .int .i64 (0 : Nat)), (0, .string (bs (minB N)))] []) (by kernel_rfl) (fun _ => by kernel_rfl) (fun ac7 wd7 FF7 MM7 => ?_)
    by_cases hlt : x > 0
    · skip
      refine then_n (.inl ⟨(FF7.ev 0 rfl).trans (dec_t hlt), ?_⟩)
      refine rg_seq FF7 MM7 [o_, o_, o_] [4, 3, 2, 0] (fun Kt => c + 1 < 9223372036854775808 ∧ Kt [(3, .int .i64 (c + 1 : Nat)), (4, .int .u8 (x : Nat)), (2, .int .i64 (0 : Nat)), (0, .string (bs (minB N)))] []) (by kernel_rfl) (fun _ => by kernel_rfl) (⟨(by omega), fun ac8 wd8 FF8 MM8 => ?_⟩)
      refine inb_n (then_n ?_)
      refine rg_seq FF8 MM8 [o_, o_, o_] [3, 4, 2, 0] (fun Kt => 1 ≤ 8 ∧ Kt [(4, .int .u8 (x / 2 : Nat)), (3, .int .i64 (c + 1 : Nat)), (2, .int .i64 (0 : Nat)), (0, .string (bs (minB N)))] []) (by kernel_rfl) (fun _ => by kernel_rfl) (⟨(by decide), fun ac9 wd9 FF9 MM9 => ?_⟩)
      have hd := cnt_of (FF9.get 0 rfl)
      refine then_n ⟨⟨x / 2, c + 1, by omega, by rw [bsz_half hlt] at hc; omega, FF9.pick [0, 1, 2, 3], MM9⟩, ?_⟩
      rw [hq, hd]; omega
    · skip
      refine then_n (.inr ⟨(FF7.ev 0 rfl).trans (dec_f hlt), ?_⟩)
      have he : c = bsz N := by rw [show x = 0 by omega] at hc; exact hc
      refine then_n ?_
      refine wp_seq (rg_seq FF7 MM7 [o_, o_] [4, 3, 2, 0] (fun Kt => Kt [(2, .int .i64 (c : Nat)), (4, .int .u8 (x : Nat)), (3, .int .i64 (c : Nat)), (0, .string (bs (minB N)))] []) (by kernel_rfl) (fun _ => by kernel_rfl) (fun ac10 wd10 FF10 MM10 => then_n ?_))
      refine wp_ret ?_
      repeat first | refine then_ret ?_ | refine inb_ret ?_
      exact (ret_fr FF10 0 Tryd.results16 rfl ⟨congrArg (fun z : Nat => Ending.returned (Value.int .i64 (z : Int))) (he), MM10.below⟩)
theorem low8_small {N : Nat} (h : ¬ sz N > 8) : N < 18446744073709551616 := Nat.lt_of_lt_of_le (lt_sz (n := 8) (by omega)) (by decide)
theorem low8_big {N : Nat} (h : sz N > 8) : ¬ N < 18446744073709551616 := fun h2 => by have := sz_le (N := N) (n := 8) (Nat.lt_of_lt_of_le h2 (by decide)); omega
theorem low8_shl {N j : Nat} (h : N < 18446744073709551616) : N / 256 ^ (j + 1) * 256 < 18446744073709551616 := Nat.lt_of_le_of_lt (by rw [Nat.pow_succ, ← Nat.div_div_eq_div_mul]; exact Nat.le_trans (Nat.div_mul_le_self _ _) (Nat.div_le_self _ _)) h
theorem low8_step (N j : Nat) : N / 256 ^ (j + 1) * 256 + N / 256 ^ j % 256 = N / 256 ^ j := by rw [Nat.pow_succ, ← Nat.div_div_eq_div_mul]; omega
theorem low8_or (N j : Nat) : (N / 256 ^ (j + 1) * 256 ||| N / 256 ^ j % 256) = N / 256 ^ j := by
  have h : N / 256 ^ j % 256 < 2 ^ 8 := Nat.mod_lt _ (by decide)
  have := or_shl (a := N / 256 ^ j % 256) (b := N / 256 ^ (j + 1)) 8 h
  rw [Nat.or_comm, this]
  have := low8_step N j
  omega
set_option maxRecDepth 100000 in
theorem low8_any (N : Nat) (hz : sz N < 1000000) (w0 : World) :
    Calls Tryd.prog 12 #[.string (bs (minB N))] w0 fun e w' => e = .returned (.tuple #[.int .u64 (lowN N : Nat), .bool (decide (N < 18446744073709551616))]) ∧ Below w0.heap.size w0 w' := by
  refine enter_fr Tryd.func12 rfl Tryd.ntmps12 (by simp) fun ac (FF : Fr 24 ac [(0, .string (bs (minB N)))]) => ?_
  have MM := MemS.start w0
  refine wp_seq (rg_seq FF MM [o_, o_] [0, 2, 3] (fun Kt => Kt [(3, .bool false), (2, .int .u64 (0 : Nat)), (0, .string (bs (minB N)))] []) (by kernel_rfl) (fun _ => by kernel_rfl) (fun ac1 wd1 FF1 MM1 => then_n ?_))
  refine wp_seq ?_
  refine wp_seq (rg_seq FF1 MM1 [o_, t_ (.int .i64 (sz N : Nat)), o_] [3, 2, 0, 8] (fun Kt => Value.int .i64 ((bs (minB N)).size : Nat) = .int .i64 (sz N : Nat) ∧ Kt [(8, .bool (decide ((sz N) > 8))), (3, .bool false), (2, .int .u64 (0 : Nat)), (0, .string (bs (minB N)))] []) (by kernel_rfl) (fun _ => by kernel_rfl) (⟨(vI ((bs_size _).trans (minB_len N))), fun ac2 wd2 FF2 MM2 => then_n ?_⟩))
  by_cases hs8 : (sz N) > 8
  · refine wp_cond_true ((FF2.ev 0 rfl).trans (dec_t hs8)) ?_
    refine wp_seq (rg_seq FF2 MM2 [o_, o_] [3, 2, 0] (fun Kt => Kt [(3, .bool false), (2, .int .u64 (0 : Nat)), (0, .string (bs (minB N)))] []) (by kernel_rfl) (fun _ => by kernel_rfl) (fun ac3 wd3 FF3 MM3 => then_n ?_))
    refine wp_ret ?_
    repeat first | refine then_ret ?_ | refine inb_ret ?_
    exact (ret_tup2 FF3 1 0 Tryd.results12 rfl rfl ⟨by rw [lowN, if_neg (low8_big hs8), decide_eq_false (low8_big hs8)], MM3.below⟩)
  · refine wp_cond_false ((FF2.ev 0 rfl).trans (dec_f hs8)) ?_
    have hB := low8_small hs8
    have hdv : ∀ j, N / 256 ^ j ≤ N := fun j => Nat.div_le_self _ _
    refine wp_skip ?_
    refine then_n ?_
    refine wp_seq (rg_seq FF2 MM2 [t_ (.int .u64 (N / 256 ^ sz N : Nat))] [3, 2, 0, 4] (fun Kt => Value.int .u64 (0 : Nat) = .int .u64 (N / 256 ^ sz N : Nat) ∧ Kt [(4, .int .u64 (N / 256 ^ sz N : Nat)), (3, .bool false), (2, .int .u64 (0 : Nat)), (0, .string (bs (minB N)))] []) (by kernel_rfl) (fun _ => by kernel_rfl) (⟨(vI (Nat.div_eq_of_lt (sz_ok N).1).symm), fun ac4 wd4 FF4 MM4 => then_n ?_⟩))
    refine wp_seq ?_
    refine wp_seq (rg_seq FF4 MM4 [o_, t_ (.int .i64 (sz N : Nat)), u_ 4 (.int .i64 (((sz N : Nat) : Int) - 1 : Int)), o_] [4, 3, 2, 0, 5] (fun Kt => Value.int .i64 ((bs (minB N)).size : Nat) = .int .i64 (sz N : Nat) ∧ -(9223372036854775808 : Int) ≤ ((sz N : Nat) : Int) - ((1 : Nat) : Int) ∧ ((sz N : Nat) : Int) - ((1 : Nat) : Int) < (9223372036854775808 : Nat) ∧ Value.int .i64 (((sz N : Nat) : Int) - ((1 : Nat) : Int) : Int) = .int .i64 (((sz N : Nat) : Int) - 1 : Int) ∧ Kt [(5, .int .i64 (((sz N : Nat) : Int) - 1 : Int)), (4, .int .u64 (N / 256 ^ sz N : Nat)), (3, .bool false), (2, .int .u64 (0 : Nat)), (0, .string (bs (minB N)))] []) (by kernel_rfl) (fun _ => by kernel_rfl) (⟨(vI ((bs_size _).trans (minB_len N))), (by omega), (by omega), (vZ (by omega)), fun ac5 wd5 FF5 MM5 => then_n ?_⟩))
    refine wp_for2 (fun a' w' => ∃ j : Nat, j ≤ sz N ∧ Fr 24 a' [(5, .int .i64 (((j : Nat) : Int) - 1 : Int)), (4, .int .u64 (N / 256 ^ j : Nat)), (3, .bool false), (2, .int .u64 (0 : Nat)), (0, .string (bs (minB N)))] ∧ MemS (fun k => k < w0.heap.size) w0 w' [] []) (fun a' _ => (cnt 5 a' + 1).toNat) ⟨sz N, Nat.le_refl _, FF5.pick [0, 1, 2, 3, 4], MM5⟩ ?_
    rintro ac6 wd6 ⟨j, hj, FF6, MM6⟩
    have hc := cnt_of (FF6.get 0 rfl)
    refine rg_seq FF6 MM6 [o_, w_ 4] [5, 4, 3, 2, 0, 13] (fun Kt => Kt [(13, .bool (decide ((((j : Nat) : Int) - 1) ≥ ((0 : Nat) : Int)))), (5, .int .i64 (((j : Nat) : Int) - 1 : Int)), (4, .int .u64 (N / 256 ^ j : Nat)), (3, .bool false), (2, .int .u64 (0 : Nat)), (0, .string (bs (minB N)))] []) (by kernel_rfl) (fun _ => by kernel_rfl) (fun ac7 wd7 FF7 MM7 => ?_)
    by_cases hlt : (((j : Nat) : Int) - 1) ≥ ((0 : Nat) : Int)
    · skip
      refine then_n (.inl ⟨(FF7.ev 0 rfl).trans (dec_t hlt), ?_⟩)
      obtain ⟨j, rfl⟩ : ∃ z, j = z + 1 := ⟨j - 1, by omega⟩
      refine rg_seq FF7 MM7 [o_, t_ (.int .u64 (N / 256 ^ (j + 1) * 256 : Nat)), o_, t_ (.int .i64 (j : Nat)), t_ (.int .u8 (N / 256 ^ j % 256 : Nat)), w_ 1, t_ (.int .u64 (N / 256 ^ j : Nat)), o_] [5, 4, 3, 2, 0] (fun Kt => Value.int .u64 ((N / 256 ^ (j + 1)) * 256 % 18446744073709551616 : Nat) = .int .u64 (N / 256 ^ (j + 1) * 256 : Nat) ∧ Value.int .i64 ((((j + 1) : Nat) : Int) - 1 : Int) = .int .i64 (j : Nat) ∧ j < (bs (minB N)).size ∧ (nl (bs (minB N))).getD j 0 = N / 256 ^ j % 256 ∧ (N / 256 ^ j % 256) < 18446744073709551616 ∧ (N / 256 ^ (j + 1) * 256) < 18446744073709551616 ∧ (N / 256 ^ j % 256) < 18446744073709551616 ∧ Value.int .u64 ((N / 256 ^ (j + 1) * 256) ||| (N / 256 ^ j % 256) : Nat) = .int .u64 (N / 256 ^ j : Nat) ∧ Kt [(4, .int .u64 (N / 256 ^ j : Nat)), (5, .int .i64 ((((j + 1) : Nat) : Int) - 1 : Int)), (3, .bool false), (2, .int .u64 (0 : Nat)), (0, .string (bs (minB N)))] []) (by kernel_rfl) (fun _ => by kernel_rfl) (⟨(vI (Nat.mod_eq_of_lt (low8_shl hB))), (vZ (by omega)), (by simp only [bs_size, minB_len]; omega), ((byte_bs (minB_lt N) _).trans (minB_get N _)), (by omega), (low8_shl hB), (Nat.lt_of_lt_of_le (Nat.mod_lt _ (by decide)) (by decide)), (vI (low8_or N j)), fun ac8 wd8 FF8 MM8 => ?_⟩)
      refine inb_n (then_n ?_)
      refine rg_seq FF8 MM8 [o_, u_ 4 (.int .i64 (((j : Nat) : Int) - 1 : Int)), o_] [4, 5, 3, 2, 0] (fun Kt => -(9223372036854775808 : Int) ≤ ((((j + 1) : Nat) : Int) - 1) - ((1 : Nat) : Int) ∧ ((((j + 1) : Nat) : Int) - 1) - ((1 : Nat) : Int) < (9223372036854775808 : Nat) ∧ Value.int .i64 (((((j + 1) : Nat) : Int) - 1) - ((1 : Nat) : Int) : Int) = .int .i64 (((j : Nat) : Int) - 1 : Int) ∧ Kt [(5, .int .i64 (((j : Nat) : Int) - 1 : Int)), (4, .int .u64 (N / 256 ^ j : Nat)), (3, .bool false), (2, .int .u64 (0 : Nat)), (0, .string (bs (minB N)))] []) (by kernel_rfl) (fun _ => by kernel_rfl) (⟨(by omega), (by omega), (vZ (by omega)), fun ac9 wd9 FF9 MM9 => ?_⟩)
      have hd := cnt_of (FF9.get 0 rfl)
      refine then_n ⟨⟨j, by omega, FF9.pick [0, 1, 2, 3, 4], MM9⟩, ?_⟩
      rw [hc, hd]; omega
    · skip
      refine then_n (.inr ⟨(FF7.ev 0 rfl).trans (dec_f hlt), ?_⟩)
      obtain rfl : j = 0 := by omega
      refine then_n ?_
      refine wp_seq (rg_seq FF7 MM7 [o_, o_, o_] [5, 4, 3, 2, 0] (fun Kt => Kt [(3, .bool true), (2, .int .u64 (N / 256 ^ 0 : Nat)), (5, .int .i64 (((0 : Nat) : Int) - 1 : Int)), (4, .int .u64 (N / 256 ^ 0 : Nat)), (0, .string (bs (minB N)))] []) (by kernel_rfl) (fun _ => by kernel_rfl) (fun ac10 wd10 FF10 MM10 => then_n ?_))
      refine wp_ret ?_
      repeat first | refine then_ret ?_ | refine inb_ret ?_
      exact (ret_tup2 FF10 1 0 Tryd.results12 rfl rfl ⟨by rw [lowN, if_pos hB, decide_eq_true hB, Nat.pow_zero, Nat.div_one], MM10.below⟩)

end Go.Proofs.YtcannnmpemnklaaDoor
namespace Go.Proofs.YtcannnmpemnklaaDoor
open Go.RowKit

def d8 (N j : Nat) : Nat := N / 256 ^ j % 256
theorem d8_zero (N : Nat) : d8 N 0 = N % 256 := by simp [d8]
/-- What is carried behind k words of V + N * x. -/
def nc (V N x k : Nat) : Nat := (V % 256 ^ k + N % 256 ^ k * x) / 256 ^ k
theorem nc_zero (V N x : Nat) : nc V N x 0 = 0 := by simp [nc, Nat.mod_one]
theorem mod_next8 (X k : Nat) : X % 256 ^ (k + 1) = X % 256 ^ k + 256 ^ k * d8 X k := by rw [Nat.pow_succ, Nat.mod_mul]; rfl
theorem nc_num (V N x k : Nat) : (V % 256 ^ (k + 1) + N % 256 ^ (k + 1) * x) / 256 ^ k = nc V N x k + (d8 V k + d8 N k * x) := by
  rw [mod_next8 V k, mod_next8 N k]
  have : V % 256 ^ k + 256 ^ k * d8 V k + (N % 256 ^ k + 256 ^ k * d8 N k) * x = (V % 256 ^ k + N % 256 ^ k * x) + 256 ^ k * (d8 V k + d8 N k * x) := by
    rw [Nat.add_mul, Nat.mul_add, Nat.mul_assoc]; omega
  rw [this, Nat.add_mul_div_left _ _ (pw_pos k)]; rfl
theorem nc_step (V N x k : Nat) : (x * d8 N k + nc V N x k + d8 V k) / 256 = nc V N x (k + 1) := by
  have h := nc_num V N x k
  have e : nc V N x (k + 1) = (V % 256 ^ (k + 1) + N % 256 ^ (k + 1) * x) / 256 ^ k / 256 := by rw [nc, Nat.div_div_eq_div_mul, ← Nat.pow_succ]
  rw [e, h, Nat.mul_comm x]
  congr 1; omega
theorem nc_word (V N x k : Nat) : (x * d8 N k + nc V N x k + d8 V k) % 256 = d8 (V + N * x) k := by
  have e : V + N * x = (V % 256 ^ k + N % 256 ^ k * x) + 256 ^ k * (V / 256 ^ k + N / 256 ^ k * x) := by
    have h1 := Nat.div_add_mod V (256 ^ k)
    have h2 := Nat.div_add_mod N (256 ^ k)
    conv => lhs; rw [← h1, ← h2]
    rw [Nat.add_mul, Nat.mul_add, Nat.mul_assoc]; omega
  unfold d8
  rw [e, Nat.add_mul_div_left _ _ (pw_pos k)]
  have : N / 256 ^ k * x % 256 = (N / 256 ^ k % 256) * x % 256 := by rw [Nat.mod_mul_mod]
  have hm : (V % 256 ^ k + N % 256 ^ k * x) / 256 ^ k = nc V N x k := rfl
  rw [hm, Nat.mul_comm x]
  omega
theorem nc_lt {x : Nat} (hx : x < 256) (V N k : Nat) : nc V N x k < 256 := by
  refine Nat.div_lt_of_lt_mul ?_
  have h1 := Nat.mod_lt V (pw_pos k)
  have h2 := Nat.mod_lt N (pw_pos k)
  have h3 : N % 256 ^ k * x ≤ (256 ^ k - 1) * (256 - 1) := Nat.mul_le_mul (by omega) (by omega)
  have h4 : (256 ^ k - 1) * (256 - 1) + (256 ^ k - 1) = (256 ^ k - 1) * 256 := by rw [← Nat.mul_succ]
  have h5 : (256 ^ k - 1) * 256 + 256 = 256 ^ k * 256 := by rw [← Nat.succ_mul]; congr 1; omega
  omega
theorem nc_end {V N n : Nat} (x : Nat) (hV : V < 256 ^ n) (hN : N < 256 ^ n) : nc V N x n = (V + N * x) / 256 ^ n := by rw [nc, Nat.mod_eq_of_lt hV, Nat.mod_eq_of_lt hN]
theorem d8_lt (N j : Nat) : d8 N j < 256 := Nat.mod_lt _ (by decide)
theorem d8_out {N j k : Nat} (h : N < 256 ^ k) (hk : k ≤ j) : d8 N j = 0 := by rw [d8, Nat.div_eq_of_lt (Nat.lt_of_lt_of_le h (pw_le hk))]
/-- The digits of U up to k; then those of V. -/
def yL (n V U k : Nat) : List Nat := (List.range n).map fun p => if p < k then d8 U p else d8 V p
theorem yL_len (n V U k : Nat) : (yL n V U k).length = n := by simp [yL]
theorem yL_get (n V U k : Nat) {j : Nat} (h : j < n) : (yL n V U k).getD j 0 = if j < k then d8 U j else d8 V j := by simp [yL, h]
theorem yL_lt (n V U k i : Nat) : (yL n V U k).getD i 0 < 256 := by
  rcases Nat.lt_or_ge i n with h | h
  · rw [yL_get _ _ _ _ h]; split <;> exact d8_lt _ _
  · rw [List.getD_eq_getElem?_getD, List.getElem?_eq_none (by rw [yL_len]; exact h)]; decide
theorem yL_start {n V U k : Nat} (h : ∀ p, p < k → d8 U p = d8 V p) : yL n V U k = leB n V := by
  refine ext_getD (by rw [yL_len, leB_len]) fun j hj => ?_
  rw [yL_len] at hj
  rw [yL_get _ _ _ _ hj, leB_get hj]
  split
  · rw [h _ (by assumption)]; rfl
  · rfl
theorem yL_end {n V U k : Nat} (h : ∀ p, k ≤ p → d8 U p = d8 V p) : yL n V U k = leB n U := by
  refine ext_getD (by rw [yL_len, leB_len]) fun j hj => ?_
  rw [yL_len] at hj
  rw [yL_get _ _ _ _ hj, leB_get hj]
  split
  · rfl
  · rw [← h _ (by omega)]; rfl
theorem yL_step (n V U k : Nat) (h : k < n) : (yL n V U k).set k (d8 U k) = yL n V U (k + 1) := by
  refine ext_getD (by simp [yL]) fun j hj => ?_
  simp only [List.length_set, yL_len] at hj
  rw [getD_set, yL_get _ _ _ _ hj, yL_get _ _ _ _ hj, yL_len]
  by_cases e : k = j
  · subst e; rw [if_pos ⟨rfl, h⟩, if_pos (by omega)]
  · rw [if_neg (fun h => e h.1)]
    by_cases h1 : j < k
    · rw [if_pos h1, if_pos (by omega)]
    · rw [if_neg h1, if_neg (by omega)]
/-- The product with the first i digits. -/
def pI (M N i : Nat) : Nat := M % 256 ^ i * N
theorem pI_zero (M N : Nat) : pI M N 0 = 0 := by simp [pI, Nat.mod_one]
theorem pI_all {M N i : Nat} (h : sz M ≤ i) : pI M N i = M * N := by rw [pI, Nat.mod_eq_of_lt (lt_sz h)]
theorem pI_next (M N i : Nat) : pI M N (i + 1) = pI M N i + 256 ^ i * (N * d8 M i) := by
  rw [pI, pI, mod_next8, Nat.add_mul, Nat.mul_assoc, Nat.mul_comm (d8 M i)]
theorem pI_div (M N i : Nat) : pI M N (i + 1) / 256 ^ i = pI M N i / 256 ^ i + N * d8 M i := by rw [pI_next, Nat.add_mul_div_left _ _ (pw_pos i)]
theorem pI_top (M N i : Nat) : pI M N i / 256 ^ i < 256 ^ sz N := by
  refine Nat.div_lt_of_lt_mul ?_
  rcases Nat.eq_zero_or_pos N with h | h
  · subst h; rw [pI, Nat.mul_zero]; exact Nat.mul_pos (pw_pos _) (pw_pos _)
  · exact Nat.mul_lt_mul'' (Nat.mod_lt _ (pw_pos i)) (sz_ok N).1
theorem d8_shift (V i j : Nat) : d8 V (i + j) = d8 (V / 256 ^ i) j := by rw [d8, d8, Nat.div_div_eq_div_mul, ← Nat.pow_add]
theorem pI_low (M N i p : Nat) (h : p < i) : d8 (pI M N (i + 1)) p = d8 (pI M N i) p := by
  rw [pI_next]
  obtain ⟨k, rfl⟩ : ∃ k, i = p + 1 + k := ⟨i - p - 1, by omega⟩
  have e : 256 ^ (p + 1 + k) * (N * d8 M (p + 1 + k)) = 256 ^ p * (256 * (256 ^ k * (N * d8 M (p + 1 + k)))) := by
    rw [Nat.pow_add, Nat.pow_succ]; simp only [Nat.mul_assoc]
  rw [e]
  show (_ + 256 ^ p * _) / 256 ^ p % 256 = _ / 256 ^ p % 256
  rw [Nat.add_mul_div_left _ _ (pw_pos p), Nat.add_mul_mod_self_left]
theorem yL_begin (n M N i : Nat) : yL n (pI M N i) (pI M N (i + 1)) (i + 0) = leB n (pI M N i) := yL_start fun p hp => pI_low M N i p (by omega)
theorem pI_lt8 (M N i : Nat) : pI M N (i + 1) / 256 ^ i < 256 ^ (sz N + 1) := by
  have h1 := pI_top M N i
  rw [pI_div, Nat.pow_succ]
  have h2 : N * d8 M i ≤ (256 ^ sz N - 1) * 255 := Nat.mul_le_mul (by have := (sz_ok N).1; omega) (by have := d8_lt M i; omega)
  have h3 : (256 ^ sz N - 1) * 255 + (256 ^ sz N - 1) = (256 ^ sz N - 1) * 256 := by omega
  omega
theorem nc_more {M N i j : Nat} (h : nc (pI M N i / 256 ^ i) N (d8 M i) j > 0) : j ≤ sz N := by
  refine Nat.le_of_not_lt fun hj => ?_
  have hN : N < 256 ^ j := lt_sz (by omega)
  have hV : pI M N i / 256 ^ i < 256 ^ j := Nat.lt_of_lt_of_le (pI_top M N i) (pw_le (by omega))
  rw [nc_end _ hV hN, ← pI_div, Nat.div_eq_of_lt (Nat.lt_of_lt_of_le (pI_lt8 M N i) (pw_le (by omega)))] at h
  omega
theorem pI_fin {M N i j : Nat} (hj : sz N ≤ j) (h : nc (pI M N i / 256 ^ i) N (d8 M i) j = 0) (n : Nat) : yL n (pI M N i) (pI M N (i + 1)) (i + j) = leB n (pI M N (i + 1)) := by
  have hN : N < 256 ^ j := lt_sz hj
  have hV : pI M N i / 256 ^ i < 256 ^ j := Nat.lt_of_lt_of_le (pI_top M N i) (pw_le hj)
  rw [nc_end _ hV hN, ← pI_div] at h
  have hU : pI M N (i + 1) / 256 ^ i < 256 ^ j := by
    rcases Nat.lt_or_ge (pI M N (i + 1) / 256 ^ i) (256 ^ j) with h2 | h2
    · exact h2
    · have := Nat.div_pos h2 (pw_pos j); omega
  refine yL_end fun p hp => ?_
  obtain ⟨k, rfl⟩ : ∃ k, p = i + k := ⟨p - i, by omega⟩
  rw [d8_shift, d8_shift, d8_out hU (by omega), d8_out hV (by omega)]
theorem nc_dig (M N i j : Nat) : (nc (pI M N i / 256 ^ i) N (d8 M i) j + (d8 (pI M N i) (i + j) + d8 M i * d8 N j)) % 256 = d8 (pI M N (i + 1)) (i + j) := by
  rw [d8_shift (pI M N (i + 1)), pI_div, ← nc_word, d8_shift]
  congr 1; omega
theorem nc_nxt (M N i j : Nat) : (nc (pI M N i / 256 ^ i) N (d8 M i) j + (d8 (pI M N i) (i + j) + d8 M i * d8 N j)) / 256 = nc (pI M N i / 256 ^ i) N (d8 M i) (j + 1) := by
  rw [← nc_step, d8_shift]
  congr 1; omega
theorem mul_sz8 (M N : Nat) : M * N < 256 ^ (sz M + sz N + 1) := by
  refine Nat.lt_of_lt_of_le ?_ (pw_le (show sz M + sz N ≤ sz M + sz N + 1 by omega))
  rw [Nat.pow_add]
  rcases Nat.eq_zero_or_pos N with h | h
  · subst h; rw [Nat.mul_zero]; exact Nat.mul_pos (pw_pos _) (pw_pos _)
  · exact Nat.mul_lt_mul'' (sz_ok M).1 (sz_ok N).1
theorem zero_leB (n : Nat) : List.replicate n 0 = leB n 0 := by
  refine ext_getD (by rw [leB_len, List.length_replicate]) fun j hj => ?_
  rw [List.length_replicate] at hj
  rw [leB_get hj]; simp [hj]
theorem mul_le8 {a b : Nat} (ha : a < 256) (hb : b < 256) : a * b ≤ 65025 := Nat.mul_le_mul (Nat.le_of_lt_succ ha) (Nat.le_of_lt_succ hb)
set_option maxRecDepth 100000 in
theorem mul8_any (M N : Nat) (hz : sz M + sz N < 1000000) (w0 : World) :
    Calls Tryd.prog 23 #[.string (bs (minB M)), .string (bs (minB N))] w0 fun e w' => e = .returned (.string (bs (minB (M * N)))) ∧ Below w0.heap.size w0 w' := by
  refine enter_fr Tryd.func23 rfl Tryd.ntmps23 (by simp) fun ac (FF : Fr 62 ac [(0, .string (bs (minB M))), (1, .string (bs (minB N)))]) => ?_
  have MM := MemS.start w0
  refine wp_seq (rg_seq FF MM [o_] [0, 1, 4] (fun Kt => Kt [(4, .string (bs [])), (0, .string (bs (minB M))), (1, .string (bs (minB N)))] []) (by kernel_rfl) (fun _ => by kernel_rfl) (fun ac1 wd1 FF1 MM1 => then_n ?_))
  refine wp_seq (rg_seq FF1 MM1 [o_, t_ (.int .i64 (sz M : Nat)), o_, t_ (.int .i64 (sz N : Nat)), o_, o_, n_ (.slice none (((sz M) + (sz N)) + 1) (((sz M) + (sz N)) + 1)) (.cells (cn .u8 (List.replicate (((sz M) + (sz N)) + 1) 0)) 5), o_] [4, 0, 1, 5] (fun Kt => Value.int .i64 ((bs (minB M)).size : Nat) = .int .i64 (sz M : Nat) ∧ Value.int .i64 ((bs (minB N)).size : Nat) = .int .i64 (sz N : Nat) ∧ (sz M) + (sz N) < 9223372036854775808 ∧ ((sz M) + (sz N)) + 1 < 9223372036854775808 ∧ RunN Tryd.prog [(14, .int .i64 (((sz M) + (sz N)) + 1 : Nat)), (13, .int .i64 ((sz M) + (sz N) : Nat)), (12, .int .i64 (sz N : Nat)), (11, .string (bs (minB N))), (10, .int .i64 (sz M : Nat)), (9, .string (bs (minB M))), (4, .string (bs [])), (0, .string (bs (minB M))), (1, .string (bs (minB N)))] [] (opAt Tryd.f23 1 6) (mkOf (.slice none (((sz M) + (sz N)) + 1) (((sz M) + (sz N)) + 1))) (.cells (cn .u8 (List.replicate (((sz M) + (sz N)) + 1) 0)) 5) ∧ ∀ bo, Kt [(5, .slice (some ⟨bo, 0, none⟩) (((sz M) + (sz N)) + 1) (((sz M) + (sz N)) + 1)), (4, .string (bs [])), (0, .string (bs (minB M))), (1, .string (bs (minB N)))] [(bo, .cells (cn .u8 (List.replicate (((sz M) + (sz N)) + 1) 0)) 5)]) (by kernel_rfl) (fun _ => by kernel_rfl) (⟨(vI ((bs_size _).trans (minB_len M))), (vI ((bs_size _).trans (minB_len N))), (by omega), (by omega), (make_ok (t := 59) (e := 5) (p := (.tmp 14)) (q := (.tmp 14)) (by kernel_rfl) rfl rfl Tryd.underlying59 (by kernel_rfl) (by omega)), fun bo => fun ac2 wd2 FF2 MM2 => then_n ?_⟩))
  have MMr4 : MemS (fun k => k < w0.heap.size) w0 wd2 [(bo, .cells (cn .u8 (leB (sz M + sz N + 1) (pI M N 0))) 5)] [] := by rw [pI_zero, ← zero_leB]; exact MM2
  refine wp_seq ?_
  refine wp_seq (rg_seq FF2 MMr4 [o_] [5, 4, 0, 1, 6] (fun Kt => Kt [(6, .int .i64 (0 : Nat)), (5, .slice (some ⟨bo, 0, none⟩) (((sz M) + (sz N)) + 1) (((sz M) + (sz N)) + 1)), (4, .string (bs [])), (0, .string (bs (minB M))), (1, .string (bs (minB N)))] [(bo, .cells (cn .u8 (leB (sz M + sz N + 1) (pI M N 0))) 5)]) (by kernel_rfl) (fun _ => by kernel_rfl) (fun ac3 wd3 FF3 MM3 => then_n ?_))
  refine wp_for2 (fun a' w' => ∃ i : Nat, i ≤ sz M ∧ Fr 62 a' [(6, .int .i64 (i : Nat)), (5, .slice (some ⟨bo, 0, none⟩) (((sz M) + (sz N)) + 1) (((sz M) + (sz N)) + 1)), (4, .string (bs [])), (0, .string (bs (minB M))), (1, .string (bs (minB N)))] ∧ MemS (fun k => k < w0.heap.size) w0 w' [(bo, .cells (cn .u8 (leB (sz M + sz N + 1) (pI M N i))) 5)] []) (fun a' _ => (sz M - cnt 6 a').toNat) ⟨0, Nat.zero_le _, FF3.pick [0, 1, 2, 3, 4], MM3⟩ ?_
  rintro ac4 wd4 ⟨i, hi, FF4, MM4⟩
  have hc := cnt_of (FF4.get 0 rfl)
  refine rg_seq FF4 MM4 [o_, o_, t_ (.int .i64 (sz M : Nat)), o_] [6, 5, 4, 0, 1, 19] (fun Kt => Value.int .i64 ((bs (minB M)).size : Nat) = .int .i64 (sz M : Nat) ∧ Kt [(19, .bool (decide (i < (sz M)))), (6, .int .i64 (i : Nat)), (5, .slice (some ⟨bo, 0, none⟩) (((sz M) + (sz N)) + 1) (((sz M) + (sz N)) + 1)), (4, .string (bs [])), (0, .string (bs (minB M))), (1, .string (bs (minB N)))] [(bo, .cells (cn .u8 (leB (sz M + sz N + 1) (pI M N i))) 5)]) (by kernel_rfl) (fun _ => by kernel_rfl) (⟨(vI ((bs_size _).trans (minB_len M))), fun ac5 wd5 FF5 MM5 => ?_⟩)
  by_cases hlt : i < (sz M)
  · skip
    refine then_n (.inl ⟨(FF5.ev 0 rfl).trans (dec_t hlt), ?_⟩)
    refine wp_seq (rg_seq FF5 MM5 [t_ (.int .i64 (nc (pI M N i / 256 ^ i) N (d8 M i) 0 : Nat))] [6, 5, 4, 0, 1, 7] (fun Kt => Value.int .i64 (0 : Nat) = .int .i64 (nc (pI M N i / 256 ^ i) N (d8 M i) 0 : Nat) ∧ Kt [(7, .int .i64 (nc (pI M N i / 256 ^ i) N (d8 M i) 0 : Nat)), (6, .int .i64 (i : Nat)), (5, .slice (some ⟨bo, 0, none⟩) (((sz M) + (sz N)) + 1) (((sz M) + (sz N)) + 1)), (4, .string (bs [])), (0, .string (bs (minB M))), (1, .string (bs (minB N)))] [(bo, .cells (cn .u8 (leB (sz M + sz N + 1) (pI M N i))) 5)]) (by kernel_rfl) (fun _ => by kernel_rfl) (⟨(vI (nc_zero _ _ _).symm), fun ac6 wd6 FF6 MM6 => then_n ?_⟩))
    have MMr15 : MemS (fun k => k < w0.heap.size) w0 wd6 [(bo, .cells (cn .u8 (yL (sz M + sz N + 1) (pI M N i) (pI M N (i + 1)) (i + 0))) 5)] [] := by rw [yL_begin]; exact MM6
    refine wp_seq (rg_seq FF6 MMr15 [o_] [7, 6, 5, 4, 0, 1, 8] (fun Kt => Kt [(8, .int .i64 (0 : Nat)), (7, .int .i64 (nc (pI M N i / 256 ^ i) N (d8 M i) 0 : Nat)), (6, .int .i64 (i : Nat)), (5, .slice (some ⟨bo, 0, none⟩) (((sz M) + (sz N)) + 1) (((sz M) + (sz N)) + 1)), (4, .string (bs [])), (0, .string (bs (minB M))), (1, .string (bs (minB N)))] [(bo, .cells (cn .u8 (yL (sz M + sz N + 1) (pI M N i) (pI M N (i + 1)) (i + 0))) 5)]) (by kernel_rfl) (fun _ => by kernel_rfl) (fun ac7 wd7 FF7 MM7 => then_n ?_))
    refine wp_for2 (fun a' w' => ∃ j : Nat, j ≤ sz N + 1 ∧ Fr 62 a' [(8, .int .i64 (j : Nat)), (7, .int .i64 (nc (pI M N i / 256 ^ i) N (d8 M i) j : Nat)), (6, .int .i64 (i : Nat)), (5, .slice (some ⟨bo, 0, none⟩) (((sz M) + (sz N)) + 1) (((sz M) + (sz N)) + 1)), (4, .string (bs [])), (0, .string (bs (minB M))), (1, .string (bs (minB N)))] ∧ MemS (fun k => k < w0.heap.size) w0 w' [(bo, .cells (cn .u8 (yL (sz M + sz N + 1) (pI M N i) (pI M N (i + 1)) (i + j))) 5)] []) (fun a' _ => (sz N + 1 - cnt 8 a').toNat) ⟨0, Nat.zero_le _, FF7.pick [0, 1, 2, 3, 4, 5, 6], MM7⟩ ?_
    rintro ac8 wd8 ⟨j, hj, FF8, MM8⟩
    have hc2 := cnt_of (FF8.get 0 rfl)
    by_cases h1 : j < sz N
    · skip
      refine rg_seq FF8 MM8 [o_, o_, t_ (.int .i64 (sz N : Nat)), w_ 2, o_, o_, o_, o_] [8, 7, 6, 5, 4, 0, 1, 29] (fun Kt => Value.int .i64 ((bs (minB N)).size : Nat) = .int .i64 (sz N : Nat) ∧ j < (sz N) ∧ Kt [(29, .bool true), (8, .int .i64 (j : Nat)), (7, .int .i64 (nc (pI M N i / 256 ^ i) N (d8 M i) j : Nat)), (6, .int .i64 (i : Nat)), (5, .slice (some ⟨bo, 0, none⟩) (((sz M) + (sz N)) + 1) (((sz M) + (sz N)) + 1)), (4, .string (bs [])), (0, .string (bs (minB M))), (1, .string (bs (minB N)))] [(bo, .cells (cn .u8 (yL (sz M + sz N + 1) (pI M N i) (pI M N (i + 1)) (i + j))) 5)]) (by kernel_rfl) (fun _ => by kernel_rfl) (⟨(vI ((bs_size _).trans (minB_len N))), h1, fun ac9 wd9 FF9 MM9 => ?_⟩)
      refine then_n (.inl ⟨FF9.ev 0 rfl, ?_⟩)
      have hjj : i + j < sz M + sz N + 1 := by first | omega | (have := nc_more h3; omega)
      have hcl := nc_lt (d8_lt M i) (pI M N i / 256 ^ i) N j
      have hdl := d8_lt (pI M N i) (i + j)
      have hml := mul_le8 (d8_lt M i) (d8_lt N j)
      have hmi := d8_lt M i
      have hnj := d8_lt N j
      refine wp_seq (rg_draw FF9 MM9 [.inl (.int .i64 (nc (pI M N i / 256 ^ i) N (d8 M i) j : Nat)), .inl (.slice (some ⟨bo, 0, none⟩) (((sz M) + (sz N)) + 1) (((sz M) + (sz N)) + 1)), .inl (.int .i64 (i : Nat)), .inl (.int .i64 (j : Nat)), .inl (.int .i64 (i + j : Nat)), .inl (.pointer (some ⟨bo, i + j, none⟩)), .inl (.int .u8 (d8 (pI M N i) (i + j) : Nat)), .inl (.int .i64 (d8 (pI M N i) (i + j) : Nat)), .inl (.string (bs (minB M))), .inl (.int .i64 (i : Nat)), .inl (.int .u8 (d8 M i : Nat)), .inl (.int .i64 (d8 M i : Nat)), .inl (.string (bs (minB N))), .inl (.int .i64 (j : Nat)), .inl (.int .i64 (d8 N j : Nat)), .inl (.int .i64 ((d8 M i) * (d8 N j) : Nat)), .inl (.int .i64 ((d8 (pI M N i) (i + j)) + ((d8 M i) * (d8 N j)) : Nat)), .inl (.int .i64 ((nc (pI M N i / 256 ^ i) N (d8 M i) j) + ((d8 (pI M N i) (i + j)) + ((d8 M i) * (d8 N j))) : Nat))] [] [o_, o_, o_, o_, o_, w_ 1, l_ 0 (.int .u8 (d8 (pI M N i) (i + j) : Nat)), w_ 1, o_, o_, t_ (.int .u8 (d8 M i : Nat)), w_ 1, o_, o_, t_ (.int .i64 (d8 N j : Nat)), o_, o_, o_] [o_] [8, 7, 6, 5, 4, 0, 1] (fun nb => [i + j < 9223372036854775808, (i + j) < (((sz M) + (sz N)) + 1), bo = bo, (cn .u8 (yL (sz M + sz N + 1) (pI M N i) (pI M N (i + 1)) (i + j)))[i + j]? = some (.int .u8 (d8 (pI M N i) (i + j) : Nat)), (d8 (pI M N i) (i + j)) < 9223372036854775808, i < (bs (minB M)).size, (nl (bs (minB M))).getD i 0 = d8 M i, (d8 M i) < 9223372036854775808, CallP Tryd.prog 37 [.string (bs (minB N)), .int .i64 (j : Nat)] [] (.int .i64 (d8 N j : Nat)), (d8 M i) * (d8 N j) < 9223372036854775808, (d8 (pI M N i) (i + j)) + ((d8 M i) * (d8 N j)) < 9223372036854775808, (nc (pI M N i / 256 ^ i) N (d8 M i) j) + ((d8 (pI M N i) (i + j)) + ((d8 M i) * (d8 N j))) < 9223372036854775808]) (fun nb Kt => Kt [(7, .int .i64 ((nc (pI M N i / 256 ^ i) N (d8 M i) j) + ((d8 (pI M N i) (i + j)) + ((d8 M i) * (d8 N j))) : Nat)), (8, .int .i64 (j : Nat)), (6, .int .i64 (i : Nat)), (5, .slice (some ⟨bo, 0, none⟩) (((sz M) + (sz N)) + 1) (((sz M) + (sz N)) + 1)), (4, .string (bs [])), (0, .string (bs (minB M))), (1, .string (bs (minB N)))] [(bo, .cells (cn .u8 (yL (sz M + sz N + 1) (pI M N i) (pI M N (i + 1)) (i + j))) 5)]) (by kernel_rfl) (by kernel_rfl) (by kernel_rfl) (fun _ => by kernel_rfl) (fun _ _ => by kernel_rfl) trivial (fun nb => ⟨(by omega), (by omega), rfl, ((cn_get _ _ _ (by rw [yL_len]; exact hjj)).trans (by rw [yL_get _ _ _ _ hjj, if_neg (by omega)])), (by omega), (by simp only [bs_size, minB_len]; omega), ((byte_bs (minB_lt M) _).trans (minB_get M _)), (by omega), (digm_ok _ _ _), (by omega), (by omega), (by omega), trivial⟩) (fun nb => fun ac10 wd10 FF10 MM10 => then_n ?_))
      refine wp_seq (rg_seq FF10 MM10 [o_, o_, o_, o_, o_, t_ (.int .u8 (d8 (pI M N (i + 1)) (i + j) : Nat)), w_ 1, s_ 0 (.cells (cn .u8 (yL (sz M + sz N + 1) (pI M N i) (pI M N (i + 1)) (i + (j + 1)))) 5)] [7, 8, 6, 5, 4, 0, 1] (fun Kt => i + j < 9223372036854775808 ∧ Value.int .u8 (((nc (pI M N i / 256 ^ i) N (d8 M i) j) + ((d8 (pI M N i) (i + j)) + ((d8 M i) * (d8 N j)))) % 256 : Nat) = .int .u8 (d8 (pI M N (i + 1)) (i + j) : Nat) ∧ (i + j) < (((sz M) + (sz N)) + 1) ∧ bo = bo ∧ i + j < (cn .u8 (yL (sz M + sz N + 1) (pI M N i) (pI M N (i + 1)) (i + j))).size ∧ (((0, 0)).2 = 0 ∨ i + j < ((0, 0)).1) ∧ (cn .u8 (yL (sz M + sz N + 1) (pI M N i) (pI M N (i + 1)) (i + j))).setIfInBounds (i + j) (.int .u8 (d8 (pI M N (i + 1)) (i + j) : Nat)) = cn .u8 (yL (sz M + sz N + 1) (pI M N i) (pI M N (i + 1)) (i + (j + 1))) ∧ Kt [(7, .int .i64 ((nc (pI M N i / 256 ^ i) N (d8 M i) j) + ((d8 (pI M N i) (i + j)) + ((d8 M i) * (d8 N j))) : Nat)), (8, .int .i64 (j : Nat)), (6, .int .i64 (i : Nat)), (5, .slice (some ⟨bo, 0, none⟩) (((sz M) + (sz N)) + 1) (((sz M) + (sz N)) + 1)), (4, .string (bs [])), (0, .string (bs (minB M))), (1, .string (bs (minB N)))] [(bo, .cells (cn .u8 (yL (sz M + sz N + 1) (pI M N i) (pI M N (i + 1)) (i + (j + 1)))) 5)]) (by kernel_rfl) (fun _ => by kernel_rfl) (⟨(by omega), (vI (nc_dig M N i j)), (by omega), rfl, (by rw [cn_size, yL_len]; exact hjj), (.inl rfl), ((cn_set _ _ _ _).trans (congrArg _ (yL_step _ _ _ _ hjj))), fun ac11 wd11 FF11 MM11 => then_n ?_⟩))
      refine rg_seq FF11 MM11 [o_, t_ (.int .i64 (nc (pI M N i / 256 ^ i) N (d8 M i) (j + 1) : Nat)), o_] [7, 8, 6, 5, 4, 0, 1] (fun Kt => 8 ≤ 64 ∧ Value.int .i64 (((nc (pI M N i / 256 ^ i) N (d8 M i) j) + ((d8 (pI M N i) (i + j)) + ((d8 M i) * (d8 N j)))) / 256 : Nat) = .int .i64 (nc (pI M N i / 256 ^ i) N (d8 M i) (j + 1) : Nat) ∧ Kt [(7, .int .i64 (nc (pI M N i / 256 ^ i) N (d8 M i) (j + 1) : Nat)), (8, .int .i64 (j : Nat)), (6, .int .i64 (i : Nat)), (5, .slice (some ⟨bo, 0, none⟩) (((sz M) + (sz N)) + 1) (((sz M) + (sz N)) + 1)), (4, .string (bs [])), (0, .string (bs (minB M))), (1, .string (bs (minB N)))] [(bo, .cells (cn .u8 (yL (sz M + sz N + 1) (pI M N i) (pI M N (i + 1)) (i + (j + 1)))) 5)]) (by kernel_rfl) (fun _ => by kernel_rfl) (⟨(by decide), (vI (nc_nxt M N i j)), fun ac12 wd12 FF12 MM12 => ?_⟩)
      refine inb_n (then_n ?_)
      refine rg_seq FF12 MM12 [o_, o_, o_] [7, 8, 6, 5, 4, 0, 1] (fun Kt => j + 1 < 9223372036854775808 ∧ Kt [(8, .int .i64 (j + 1 : Nat)), (7, .int .i64 (nc (pI M N i / 256 ^ i) N (d8 M i) (j + 1) : Nat)), (6, .int .i64 (i : Nat)), (5, .slice (some ⟨bo, 0, none⟩) (((sz M) + (sz N)) + 1) (((sz M) + (sz N)) + 1)), (4, .string (bs [])), (0, .string (bs (minB M))), (1, .string (bs (minB N)))] [(bo, .cells (cn .u8 (yL (sz M + sz N + 1) (pI M N i) (pI M N (i + 1)) (i + (j + 1)))) 5)]) (by kernel_rfl) (fun _ => by kernel_rfl) (⟨(by omega), fun ac13 wd13 FF13 MM13 => ?_⟩)
      have hd2 := cnt_of (FF13.get 0 rfl)
      refine then_n ⟨⟨j + 1, (by first | omega | (have := nc_more h3; omega)), FF13.pick [0, 1, 2, 3, 4, 5, 6], MM13⟩, ?_⟩
      rw [hc2, hd2]; first | omega | (have := nc_more h3; omega)
    · by_cases h3 : nc (pI M N i / 256 ^ i) N (d8 M i) j > 0
      · skip
        refine rg_seq FF8 MM8 [o_, o_, t_ (.int .i64 (sz N : Nat)), w_ 3, o_, o_, w_ 2, o_] [8, 7, 6, 5, 4, 0, 1, 29] (fun Kt => Value.int .i64 ((bs (minB N)).size : Nat) = .int .i64 (sz N : Nat) ∧ ¬ (j < (sz N)) ∧ (nc (pI M N i / 256 ^ i) N (d8 M i) j) > 0 ∧ Kt [(29, .bool true), (8, .int .i64 (j : Nat)), (7, .int .i64 (nc (pI M N i / 256 ^ i) N (d8 M i) j : Nat)), (6, .int .i64 (i : Nat)), (5, .slice (some ⟨bo, 0, none⟩) (((sz M) + (sz N)) + 1) (((sz M) + (sz N)) + 1)), (4, .string (bs [])), (0, .string (bs (minB M))), (1, .string (bs (minB N)))] [(bo, .cells (cn .u8 (yL (sz M + sz N + 1) (pI M N i) (pI M N (i + 1)) (i + j))) 5)]) (by kernel_rfl) (fun _ => by kernel_rfl) (⟨(vI ((bs_size _).trans (minB_len N))), h1, h3, fun ac14 wd14 FF14 MM14 => ?_⟩)
        refine then_n (.inl ⟨FF14.ev 0 rfl, ?_⟩)
        have hjj : i + j < sz M + sz N + 1 := by first | omega | (have := nc_more h3; omega)
        have hcl := nc_lt (d8_lt M i) (pI M N i / 256 ^ i) N j
        have hdl := d8_lt (pI M N i) (i + j)
        have hml := mul_le8 (d8_lt M i) (d8_lt N j)
        have hmi := d8_lt M i
        have hnj := d8_lt N j
        refine wp_seq (rg_draw FF14 MM14 [.inl (.int .i64 (nc (pI M N i / 256 ^ i) N (d8 M i) j : Nat)), .inl (.slice (some ⟨bo, 0, none⟩) (((sz M) + (sz N)) + 1) (((sz M) + (sz N)) + 1)), .inl (.int .i64 (i : Nat)), .inl (.int .i64 (j : Nat)), .inl (.int .i64 (i + j : Nat)), .inl (.pointer (some ⟨bo, i + j, none⟩)), .inl (.int .u8 (d8 (pI M N i) (i + j) : Nat)), .inl (.int .i64 (d8 (pI M N i) (i + j) : Nat)), .inl (.string (bs (minB M))), .inl (.int .i64 (i : Nat)), .inl (.int .u8 (d8 M i : Nat)), .inl (.int .i64 (d8 M i : Nat)), .inl (.string (bs (minB N))), .inl (.int .i64 (j : Nat)), .inl (.int .i64 (d8 N j : Nat)), .inl (.int .i64 ((d8 M i) * (d8 N j) : Nat)), .inl (.int .i64 ((d8 (pI M N i) (i + j)) + ((d8 M i) * (d8 N j)) : Nat)), .inl (.int .i64 ((nc (pI M N i / 256 ^ i) N (d8 M i) j) + ((d8 (pI M N i) (i + j)) + ((d8 M i) * (d8 N j))) : Nat))] [] [o_, o_, o_, o_, o_, w_ 1, l_ 0 (.int .u8 (d8 (pI M N i) (i + j) : Nat)), w_ 1, o_, o_, t_ (.int .u8 (d8 M i : Nat)), w_ 1, o_, o_, t_ (.int .i64 (d8 N j : Nat)), o_, o_, o_] [o_] [8, 7, 6, 5, 4, 0, 1] (fun nb => [i + j < 9223372036854775808, (i + j) < (((sz M) + (sz N)) + 1), bo = bo, (cn .u8 (yL (sz M + sz N + 1) (pI M N i) (pI M N (i + 1)) (i + j)))[i + j]? = some (.int .u8 (d8 (pI M N i) (i + j) : Nat)), (d8 (pI M N i) (i + j)) < 9223372036854775808, i < (bs (minB M)).size, (nl (bs (minB M))).getD i 0 = d8 M i, (d8 M i) < 9223372036854775808, CallP Tryd.prog 37 [.string (bs (minB N)), .int .i64 (j : Nat)] [] (.int .i64 (d8 N j : Nat)), (d8 M i) * (d8 N j) < 9223372036854775808, (d8 (pI M N i) (i + j)) + ((d8 M i) * (d8 N j)) < 9223372036854775808, (nc (pI M N i / 256 ^ i) N (d8 M i) j) + ((d8 (pI M N i) (i + j)) + ((d8 M i) * (d8 N j))) < 9223372036854775808]) (fun nb Kt => Kt [(7, .int .i64 ((nc (pI M N i / 256 ^ i) N (d8 M i) j) + ((d8 (pI M N i) (i + j)) + ((d8 M i) * (d8 N j))) : Nat)), (8, .int .i64 (j : Nat)), (6, .int .i64 (i : Nat)), (5, .slice (some ⟨bo, 0, none⟩) (((sz M) + (sz N)) + 1) (((sz M) + (sz N)) + 1)), (4, .string (bs [])), (0, .string (bs (minB M))), (1, .string (bs (minB N)))] [(bo, .cells (cn .u8 (yL (sz M + sz N + 1) (pI M N i) (pI M N (i + 1)) (i + j))) 5)]) (by kernel_rfl) (by kernel_rfl) (by kernel_rfl) (fun _ => by kernel_rfl) (fun _ _ => by kernel_rfl) trivial (fun nb => ⟨(by omega), (by omega), rfl, ((cn_get _ _ _ (by rw [yL_len]; exact hjj)).trans (by rw [yL_get _ _ _ _ hjj, if_neg (by omega)])), (by omega), (by simp only [bs_size, minB_len]; omega), ((byte_bs (minB_lt M) _).trans (minB_get M _)), (by omega), (digm_ok _ _ _), (by omega), (by omega), (by omega), trivial⟩) (fun nb => fun ac15 wd15 FF15 MM15 => then_n ?_))
        refine wp_seq (rg_seq FF15 MM15 [o_, o_, o_, o_, o_, t_ (.int .u8 (d8 (pI M N (i + 1)) (i + j) : Nat)), w_ 1, s_ 0 (.cells (cn .u8 (yL (sz M + sz N + 1) (pI M N i) (pI M N (i + 1)) (i + (j + 1)))) 5)] [7, 8, 6, 5, 4, 0, 1] (fun Kt => i + j < 9223372036854775808 ∧ Value.int .u8 (((nc (pI M N i / 256 ^ i) N (d8 M i) j) + ((d8 (pI M N i) (i + j)) + ((d8 M i) * (d8 N j)))) % 256 : Nat) = .int .u8 (d8 (pI M N (i + 1)) (i + j) : Nat) ∧ (i + j) < (((sz M) + (sz N)) + 1) ∧ bo = bo ∧ i + j < (cn .u8 (yL (sz M + sz N + 1) (pI M N i) (pI M N (i + 1)) (i + j))).size ∧ (((0, 0)).2 = 0 ∨ i + j < ((0, 0)).1) ∧ (cn .u8 (yL (sz M + sz N + 1) (pI M N i) (pI M N (i + 1)) (i + j))).setIfInBounds (i + j) (.int .u8 (d8 (pI M N (i + 1)) (i + j) : Nat)) = cn .u8 (yL (sz M + sz N + 1) (pI M N i) (pI M N (i + 1)) (i + (j + 1))) ∧ Kt [(7, .int .i64 ((nc (pI M N i / 256 ^ i) N (d8 M i) j) + ((d8 (pI M N i) (i + j)) + ((d8 M i) * (d8 N j))) : Nat)), (8, .int .i64 (j : Nat)), (6, .int .i64 (i : Nat)), (5, .slice (some ⟨bo, 0, none⟩) (((sz M) + (sz N)) + 1) (((sz M) + (sz N)) + 1)), (4, .string (bs [])), (0, .string (bs (minB M))), (1, .string (bs (minB N)))] [(bo, .cells (cn .u8 (yL (sz M + sz N + 1) (pI M N i) (pI M N (i + 1)) (i + (j + 1)))) 5)]) (by kernel_rfl) (fun _ => by kernel_rfl) (⟨(by omega), (vI (nc_dig M N i j)), (by omega), rfl, (by rw [cn_size, yL_len]; exact hjj), (.inl rfl), ((cn_set _ _ _ _).trans (congrArg _ (yL_step _ _ _ _ hjj))), fun ac16 wd16 FF16 MM16 => then_n ?_⟩))
        refine rg_seq FF16 MM16 [o_, t_ (.int .i64 (nc (pI M N i / 256 ^ i) N (d8 M i) (j + 1) : Nat)), o_] [7, 8, 6, 5, 4, 0, 1] (fun Kt => 8 ≤ 64 ∧ Value.int .i64 (((nc (pI M N i / 256 ^ i) N (d8 M i) j) + ((d8 (pI M N i) (i + j)) + ((d8 M i) * (d8 N j)))) / 256 : Nat) = .int .i64 (nc (pI M N i / 256 ^ i) N (d8 M i) (j + 1) : Nat) ∧ Kt [(7, .int .i64 (nc (pI M N i / 256 ^ i) N (d8 M i) (j + 1) : Nat)), (8, .int .i64 (j : Nat)), (6, .int .i64 (i : Nat)), (5, .slice (some ⟨bo, 0, none⟩) (((sz M) + (sz N)) + 1) (((sz M) + (sz N)) + 1)), (4, .string (bs [])), (0, .string (bs (minB M))), (1, .string (bs (minB N)))] [(bo, .cells (cn .u8 (yL (sz M + sz N + 1) (pI M N i) (pI M N (i + 1)) (i + (j + 1)))) 5)]) (by kernel_rfl) (fun _ => by kernel_rfl) (⟨(by decide), (vI (nc_nxt M N i j)), fun ac17 wd17 FF17 MM17 => ?_⟩)
        refine inb_n (then_n ?_)
        refine rg_seq FF17 MM17 [o_, o_, o_] [7, 8, 6, 5, 4, 0, 1] (fun Kt => j + 1 < 9223372036854775808 ∧ Kt [(8, .int .i64 (j + 1 : Nat)), (7, .int .i64 (nc (pI M N i / 256 ^ i) N (d8 M i) (j + 1) : Nat)), (6, .int .i64 (i : Nat)), (5, .slice (some ⟨bo, 0, none⟩) (((sz M) + (sz N)) + 1) (((sz M) + (sz N)) + 1)), (4, .string (bs [])), (0, .string (bs (minB M))), (1, .string (bs (minB N)))] [(bo, .cells (cn .u8 (yL (sz M + sz N + 1) (pI M N i) (pI M N (i + 1)) (i + (j + 1)))) 5)]) (by kernel_rfl) (fun _ => by kernel_rfl) (⟨(by omega), fun ac18 wd18 FF18 MM18 => ?_⟩)
        have hd2 := cnt_of (FF18.get 0 rfl)
        refine then_n ⟨⟨j + 1, (by first | omega | (have := nc_more h3; omega)), FF18.pick [0, 1, 2, 3, 4, 5, 6], MM18⟩, ?_⟩
        rw [hc2, hd2]; first | omega | (have := nc_more h3; omega)
      · skip
        refine rg_seq FF8 MM8 [o_, o_, t_ (.int .i64 (sz N : Nat)), w_ 3, o_, o_, w_ 3, o_] [8, 7, 6, 5, 4, 0, 1, 29] (fun Kt => Value.int .i64 ((bs (minB N)).size : Nat) = .int .i64 (sz N : Nat) ∧ ¬ (j < (sz N)) ∧ ¬ ((nc (pI M N i / 256 ^ i) N (d8 M i) j) > 0) ∧ Kt [(29, .bool false), (8, .int .i64 (j : Nat)), (7, .int .i64 (nc (pI M N i / 256 ^ i) N (d8 M i) j : Nat)), (6, .int .i64 (i : Nat)), (5, .slice (some ⟨bo, 0, none⟩) (((sz M) + (sz N)) + 1) (((sz M) + (sz N)) + 1)), (4, .string (bs [])), (0, .string (bs (minB M))), (1, .string (bs (minB N)))] [(bo, .cells (cn .u8 (yL (sz M + sz N + 1) (pI M N i) (pI M N (i + 1)) (i + j))) 5)]) (by kernel_rfl) (fun _ => by kernel_rfl) (⟨(vI ((bs_size _).trans (minB_len N))), h1, h3, fun ac19 wd19 FF19 MM19 => ?_⟩)
        refine then_n (.inr ⟨FF19.ev 0 rfl, ?_⟩)
        have MMl : MemS (fun k => k < w0.heap.size) w0 wd19 [(bo, .cells (cn .u8 (leB (sz M + sz N + 1) (pI M N (i + 1)))) 5)] [] := by rw [← pI_fin (M := M) (N := N) (i := i) (j := j) (by omega) (by omega)]; exact MM19
        refine inb_n (then_n ?_)
        refine rg_seq FF19 MMl [o_, o_, o_] [8, 7, 6, 5, 4, 0, 1] (fun Kt => i + 1 < 9223372036854775808 ∧ Kt [(6, .int .i64 (i + 1 : Nat)), (8, .int .i64 (j : Nat)), (7, .int .i64 (nc (pI M N i / 256 ^ i) N (d8 M i) j : Nat)), (5, .slice (some ⟨bo, 0, none⟩) (((sz M) + (sz N)) + 1) (((sz M) + (sz N)) + 1)), (4, .string (bs [])), (0, .string (bs (minB M))), (1, .string (bs (minB N)))] [(bo, .cells (cn .u8 (leB (sz M + sz N + 1) (pI M N (i + 1)))) 5)]) (by kernel_rfl) (fun _ => by kernel_rfl) (⟨(by omega), fun ac20 wd20 FF20 MM20 => ?_⟩)
        have hd := cnt_of (FF20.get 0 rfl)
        refine then_n ⟨⟨i + 1, by omega, FF20.pick [0, 3, 4, 5, 6], MM20⟩, ?_⟩
        rw [hc, hd]; omega
  · skip
    refine then_n (.inr ⟨(FF5.ev 0 rfl).trans (dec_f hlt), ?_⟩)
    obtain rfl : i = sz M := by omega
    rw [pI_all (M := M) (N := N) (Nat.le_refl (sz M))] at MM5
    refine then_n ?_
    refine wp_seq (rg_seq FF5 MM5 [o_, l_ 0 (.string (bs (leB (sz M + sz N + 1) (M * N)))), t_ (.string (bs (minB (M * N)))), o_] [6, 5, 4, 0, 1] (fun Kt => bo = bo ∧ StrAt (cn .u8 (leB (sz M + sz N + 1) (M * N))) 0 (((sz M) + (sz N)) + 1) (bs (leB (sz M + sz N + 1) (M * N))) ∧ CallP Tryd.prog 31 [.string (bs (leB (sz M + sz N + 1) (M * N)))] [] (.string (bs (minB (M * N)))) ∧ Kt [(4, .string (bs (minB (M * N)))), (6, .int .i64 ((sz M) : Nat)), (5, .slice (some ⟨bo, 0, none⟩) (((sz M) + (sz N)) + 1) (((sz M) + (sz N)) + 1)), (0, .string (bs (minB M))), (1, .string (bs (minB N)))] [(bo, .cells (cn .u8 (leB (sz M + sz N + 1) (M * N))) 5)]) (by kernel_rfl) (fun _ => by kernel_rfl) (⟨rfl, (str_all (leB_len _ _) (leB_lt _ _)), (by have h0 := callP_of en_rtrim (trim_any (leB (sz M + sz N + 1) (M * N)) (leB_lt _ _) (by rw [leB_len]; omega)) []; rw [leV_leB, Nat.mod_eq_of_lt (mul_sz8 M N)] at h0; exact h0), fun ac21 wd21 FF21 MM21 => then_n ?_⟩))
    refine wp_ret ?_
    repeat first | refine then_ret ?_ | refine inb_ret ?_
    exact (ret_fr FF21 0 Tryd.results23 rfl ⟨rfl, MM21.below⟩)

end Go.Proofs.YtcannnmpemnklaaDoor
