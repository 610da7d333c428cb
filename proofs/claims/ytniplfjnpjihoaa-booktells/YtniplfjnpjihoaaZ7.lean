/- Several texts in one: The document's book: Share. The document's book: ShareID. The document's book: Seal. The document's book: Open. Package book: maps; Shared, Key, ID, Share, ShareID. What strings.Builder's own text does: a pointer held against nil and against itself, turned to a bare pointer and back; a row's bytes as a string. -/
import Derived.Test.YtniplfjnpjihoaaZ6
import Derived.Test.YtniplfjnpjihoaaZ5
import Derived.ChangeMaps4
import Derived.Test.YtniplfjnpjihoaaZ3
import Derived.Laws.Externs
namespace Go.Proofs.Ytniplfjnpjihoaa
open Go.RowKit
theorem setFrom_snd {X Y Z : List Nat} (hl : Y.length = Z.length) : setFrom (cn .u8 X ++ cn .u8 Y) X.length (cn .u8 Z).toList = cn .u8 X ++ cn .u8 Z := by
  apply Array.ext_getElem?
  intro j
  have e1 : (cn .u8 Z).toList.length = Z.length := by rw [Array.length_toList, cn_size]
  rw [setFrom_get, e1, Array.size_append, cn_size, cn_size]
  rcases Nat.lt_or_ge j X.length with h | h
  · rw [if_neg (by omega), Array.getElem?_append_left (by rw [cn_size]; exact h), Array.getElem?_append_left (by rw [cn_size]; exact h)]
  · rw [Array.getElem?_append_right (by rw [cn_size]; exact h), Array.getElem?_append_right (by rw [cn_size]; exact h), cn_size]
    split
    · rw [Array.getElem?_toList]
    · rw [Array.getElem?_eq_none (by rw [cn_size]; omega), Array.getElem?_eq_none (by rw [cn_size]; omega)]
theorem pairC_cn (K own : List Nat) : (cn .u8 K ++ cn .u8 own).toList = pairC (K, own) := by rw [Array.toList_append, cn_toList, cn_toList]; rfl
theorem keyC_app (ks : Pairs) (p : List Nat × List Nat) : keyC ks ++ pairC p = keyC (ks ++ [p]) := by simp [keyC]
theorem pairC_one (p : List Nat × List Nat) : ∀ u ∈ pairC p, u.oneCell' = true := fun u hu => by
  rcases List.mem_append.1 hu with h | h <;> exact bcells_one _ u h
theorem noteC_cn (K N B X : List Nat) : (cn .u8 K ++ cn .u8 N ++ #[sB B, sB X]).toList = noteC ((K, N, B), X) := by rw [Array.toList_append, Array.toList_append, cn_toList, cn_toList]; rfl
theorem notC_app (dn : Notes) (p : BoxK × List Nat) : notC dn ++ noteC p = notC (dn ++ [p]) := by simp [notC]
theorem noteC_one (p : BoxK × List Nat) : ∀ u ∈ noteC p, u.oneCell' = true := fun u hu => by
  rcases List.mem_append.1 hu with h | h
  · rcases List.mem_append.1 h with h | h <;> exact bcells_one _ u h
  · simp only [List.mem_cons, List.not_mem_nil, or_false] at h
    rcases h with rfl | rfl <;> rfl
set_option maxRecDepth 100000 in
theorem bshare_any {S : Nat → Prop} {w0 : World} {L : Blks} {R : List Row} {q t : Nat} {i : Bool} {v1 v2 v3 : Value} {f u : Nat} {X : List Nat} {ks is : Pairs} {dn : Notes} {K : List Nat} (hk : OkP 32 ks) (hl : ks.length ≤ 1000000) (hK : BytesK 32 K) (hX : ∀ i, X.getD i 0 < 256) (hu : u < 4611686018427000000) (w : World) (M : MemS S w0 w ((q, QB i (pT t) v1 v2 v3 f) :: (t, RB X u) :: L) ((v1, 88, 64, ks.length, (keyC ks)) :: (v2, 93, 32, is.length, (keyC is)) :: (v3, 101, 46, dn.length, (notC dn)) :: R)) :
    Calls Try.prog 14 #[pT q, .agg (cn .u8 K)] w fun e w' => e = .returned (.tuple #[]) ∧ ∃ v, MemS S w0 w' ((q, QB i (pT t) v v2 v3 f) :: (t, RB X (u + shareU i 32 K ks)) :: L) ((v, 88, 64, (shareK i 32 K ks (X.drop u)).length, (keyC (shareK i 32 K ks (X.drop u)))) :: (v2, 93, 32, is.length, (keyC is)) :: (v3, 101, 46, dn.length, (notC dn)) :: R) := by
  refine enter_fr Try.func14 rfl Try.ntmps14 (by simp) fun ac (FF : Fr 32 ac [(0, pT q), (1, .agg (cn .u8 K))]) => ?_
  obtain ⟨O1, pv1, cv1, Mf2, hFv1, rfl, hR⟩ := MemS.frz (K := [(q, oC #[.bool i, pT t, v1, v2, v3, iN f] 37), (t, oC #[sB X, iN u] 32)]) (O := L) M
  have Mz3 : MemS S w0 w ((q, oC #[.bool i, pT t, .slice pv1 ks.length cv1, v2, v3, iN f] 37) :: (t, oC #[sB X, iN u] 32) :: O1) ((v2, 93, 32, is.length, (keyC is)) :: (v3, 101, 46, dn.length, (notC dn)) :: R) := Mf2
  refine wp_seq (rg_c FF Mz3 [(0, s_ 0 (.cells (cn .u8 K) 41))] 1 [3] [] (⟨(by kernel_rfl), fun bk => fun _ _ FF4 MM4 => then_n ?_⟩))
  refine wp_seq ?_
  cases hg : mget K ks with
  | none =>
    refine wp_seq (rg_c FF4 MM4 [(1, b_ 0), (0, u_ 1 (.int .i64 (-1 : Int))), (0, u_ 4 (.bool false))] 4 [8] [] (⟨rfl, ((cn_size _ _).trans hK.1), ⟨en_bkey, fun w Hw => bkey_no hg hk hl hK hR w (has_cons (Hw 1 _ rfl) (Has.tl (Has.tl (Has.tl Hw)))) ((MM4.dropAt 2).dropAt 0).distinct⟩, (dec_f (by decide)), fun _ wd5 FF5 MM5 => then_n ?_⟩))
    refine wp_cond_false (FF5.ev 0 rfl) ?_
    refine wp_skip ?_
    refine then_n ?_
    have Mz6 : MemS S w0 wd5 ((bk, .cells (cn .u8 K) 41) :: (q, oC #[.bool i, pT t, .slice pv1 ks.length cv1, v2, v3, iN f] 37) :: (t, oC #[sB X, iN u] 32) :: L) ((.slice pv1 ks.length cv1, 88, 64, ks.length, (keyC ks)) :: (v2, 93, 32, is.length, (keyC is)) :: (v3, 101, 46, dn.length, (notC dn)) :: R) := MemS.thw (K := [(bk, .cells (cn .u8 K) 41), (q, oC #[.bool i, pT t, .slice pv1 ks.length cv1, v2, v3, iN f] 37), (t, oC #[sB X, iN u] 32)]) (O := L) MM5 hFv1
    refine wp_seq (rg_c FF5 Mz6 [(0, b_ 0), (0, b_ 0), (0, f_ (.agg ((cn .u8 K) ++ (cn .u8 K)))), (0, s_ 0 (.cells ((cn .u8 (List.replicate 32 0)) ++ (cn .u8 (List.replicate 32 0))) 88)), (0, b_ 0)] 5 [] [] (⟨rfl, ((cn_size _ _).trans hK.1), rfl, ((cn_size _ _).trans hK.1), (build_ok (t := 88) (ps := #[(0, (.tmp 9)), (1, (.tmp 10))]) (by kernel_rfl) rfl (built_fits (pl := [(0, 32), (32, 32)]) (tot := 64) (n := 32) (by kernel_rfl) (by kernel_rfl) (ns := [32]) ⟨rfl, (show (cn .u8 K).size = 32 from ((cn_size _ _).trans hK.1)), rfl, (show (cn .u8 K).size = 32 from ((cn_size _ _).trans hK.1)), rfl⟩ rfl)), (by kernel_rfl), fun bf => ⟨rfl, (by simp [cn_size]), (by simp [cn_size, hK.1]), (one_app (cn_one _ _) (cn_one _ _)), rfl, fun _ _ FF7 MM7 => then_n ?_⟩⟩))
    refine wp_seq ?_
    cases i with
    | false =>
      refine wp_seq (rg_c FF7 MM7 [(3, l_ 2 (.bool false))] 5 [15] [] (⟨rfl, rfl, fun _ _ FF8 MM8 => then_n ?_⟩))
      refine wp_cond_false (FF8.ev 0 rfl) ?_
      refine wp_skip ?_
      refine then_n ?_
      refine late_open (N := 11) [10] (by kernel_rfl) (by kernel_rfl) MM8 fun wq9 MM10 => ?_
      refine late_take FF8 (i := 0) (oi := (opAt Try.f14 5 0)) (v := (pT q)) (d := 22) MM10.hasL (by kernel_rfl) (by kernel_rfl) (by kernel_rfl) (by kernel_rfl) (by kernel_rfl) (fun _ _ _ _ _ h => h) (by kernel_rfl) (by decide) (by kernel_rfl) (mvV (x := (.tmp 0)) (by kernel_rfl) rfl) fun _ FF11 => ?_
      refine late_take FF11 (i := 1) (oi := (opAt Try.f14 5 1)) (v := (pT q)) (d := 23) MM10.hasL (by kernel_rfl) (by kernel_rfl) (by kernel_rfl) (by kernel_rfl) (by kernel_rfl) (fun _ _ _ _ _ h => h) (by kernel_rfl) (by decide) (by kernel_rfl) (mvV (x := (.tmp 0)) (by kernel_rfl) rfl) fun _ FF12 => ?_
      refine late_take FF12 (i := 2) (oi := (opAt Try.f14 5 2)) (v := (pT q)) (d := 24) MM10.hasL (by kernel_rfl) (by kernel_rfl) (by kernel_rfl) (by kernel_rfl) (by kernel_rfl) (fun _ _ _ _ _ h => h) (by kernel_rfl) (by decide) (by kernel_rfl) (nilV (x := (.tmp 23)) (by kernel_rfl) rfl) fun _ FF13 => ?_
      refine late_take FF13 (i := 3) (oi := (opAt Try.f14 5 3)) (v := (.pointer (some ⟨q, 2, none⟩))) (d := 25) MM10.hasL (by kernel_rfl) (by kernel_rfl) (by kernel_rfl) (by kernel_rfl) (by kernel_rfl) (fun _ _ _ _ _ h => h) (by kernel_rfl) (by decide) (by kernel_rfl) (fldV (x := (.tmp 24)) (t := 37) (k := 2) (cs := []) (by kernel_rfl) rfl (by kernel_rfl)) fun _ FF14 => ?_
      refine late_take FF14 (i := 4) (oi := (opAt Try.f14 5 4)) (v := (.slice pv1 ks.length cv1)) (d := 26) MM10.hasL (by kernel_rfl) (by kernel_rfl) (by kernel_rfl) (by kernel_rfl) (by kernel_rfl) (fun _ _ _ _ _ h => h) (by kernel_rfl) (by decide) (by kernel_rfl) (loadVi (x := (.tmp 25)) (k := 2) (by kernel_rfl) rfl Try.underlying33 rfl rfl rfl) fun _ FF15 => ?_
      refine late_take FF15 (i := 5) (oi := (opAt Try.f14 5 5)) (v := (.agg ((cn .u8 K) ++ (cn .u8 K)))) (d := 27) MM10.hasL (by kernel_rfl) (by kernel_rfl) (by kernel_rfl) (by kernel_rfl) (by kernel_rfl) (fun _ _ _ _ _ h => h) (by kernel_rfl) (by decide) (by kernel_rfl) (loadRi (x := (.tmp 4)) (k := 0) (m := 64) (by kernel_rfl) rfl Try.underlying88 rfl (by kernel_rfl) rfl (by simp [cn_size, hK.1])) fun _ FF16 => ?_
      refine late_one (i := 6) (oi := (opAt Try.f14 5 6)) (by kernel_rfl) (by kernel_rfl) ?_
      refine rp_c 1 FF16 MM10 [(0, s_ 0 (.cells ((cn .u8 K) ++ (cn .u8 K)) 88))] 23 [26, 28] [15] (⟨(buildS_fits (len := 1) (sz := 64) (n := 64) Try.underlying33 (by kernel_rfl) rfl rfl (ns := []) ⟨rfl, (show ((cn .u8 K) ++ (cn .u8 K)).size = 64 from (by simp [cn_size, hK.1])), rfl⟩ rfl), fun bq => fun _ _ FF17 MM17 => ?_⟩)
      refine wpl_nil (onN_n ⟨fun _ => (Has.tl MM17.hasL), ?_⟩)
      refine late_one (i := 7) (oi := (opAt Try.f14 5 7)) (by kernel_rfl) (by kernel_rfl) ?_
      refine st_app [22, 4, 3, 0, 29] FF17 MM17 (d := 29) (s := 26) (x := 28) (Y := (cn .u8 K ++ cn .u8 (K)).toList) (z := .agg ((cn .u8 (List.replicate 32 0)) ++ (cn .u8 (List.replicate 32 0)))) (bb := 64) rfl rfl rfl (by rw [pairC_cn]; simp [pairC, bcells, hK.1]) (lies_lit (MM17.get 0 rfl)) (by rw [pairC_cn]; exact pairC_one _) (by decide) Try.underlying33 (by kernel_rfl) rfl (by decide) (by simp only [maxLen]; omega) (by omega) rfl rfl (by decide) fun ac19 wd19 rv18 FF19 MM19 => ?_
      obtain ⟨rp, rc, rfl, _⟩ := MM19.rowLen
      refine wpl_nil (onN_n ⟨fun _ => (Has.tl MM19.hasL), ?_⟩)
      refine late_one (i := 8) (oi := (opAt Try.f14 5 8)) (by kernel_rfl) (by kernel_rfl) ?_
      refine rp_c 1 FF19 MM19 [] 31 [] [22] (fun _ _ FF20 MM20 => ?_)
      refine wpl_nil (onN_n ⟨fun _ => (Has.tl MM20.hasL), ?_⟩)
      refine late_take FF20 (i := 9) (oi := (opAt Try.f14 5 9)) (v := (.pointer (some ⟨q, 2, none⟩))) (d := 31) (Has.tl MM20.hasL) (by kernel_rfl) (by kernel_rfl) (by kernel_rfl) (by kernel_rfl) (by kernel_rfl) (fun _ _ _ _ _ h => h) (by kernel_rfl) (by decide) (by kernel_rfl) (fldV (x := (.tmp 30)) (t := 37) (k := 2) (cs := []) (by kernel_rfl) rfl (by kernel_rfl)) fun _ FF21 => ?_
      refine late_one (i := 10) (oi := (opAt Try.f14 5 10)) (by kernel_rfl) (by kernel_rfl) ?_
      refine rp_c 1 FF21 MM20 [(0, s_ 3 (oC #[.bool false, pT t, .slice rp (ks.length + 1) rc, v2, v3, iN f] 37))] 5 [] [] (⟨rfl, (by simp), (.inl rfl), rfl, fun _ wd22 FF22 MM22 => ?_⟩)
      refine wpl_nil (onN_n ⟨fun h => (h (by decide)).elim, ?_⟩)
      refine late_none (by kernel_rfl) ?_
      have Mz23 : MemS S w0 wd22 ((bq, .cells ((cn .u8 K) ++ (cn .u8 K)) 88) :: (bf, .cells ((cn .u8 K) ++ (cn .u8 K)) 88) :: (bk, .cells (cn .u8 K) 41) :: (q, oC #[.bool false, pT t, .slice rp (ks.length + 1) rc, v2, v3, iN f] 37) :: (t, oC #[sB X, iN u] 32) :: L) ((.slice rp (ks.length + 1) rc, 88, 64, (ks ++ [(K, K)]).length, (keyC (ks ++ [(K, K)]))) :: (v2, 93, 32, is.length, (keyC is)) :: (v3, 101, 46, dn.length, (notC dn)) :: R) := by rw [← keyC_app, ← pairC_cn, List.length_append]; exact MM22
      exact (end_none FF22 Try.results14 (by rw [(share_no hg _).1, (share_no hg []).2]; exact ⟨rfl, _, (((Mz23.dropAt 2).dropAt 1).dropAt 0)⟩))
    | true =>
      refine wp_seq (rg_c FF7 MM7 [(3, l_ 2 (.bool true))] 5 [15] [] (⟨rfl, rfl, fun _ _ FF24 MM24 => then_n ?_⟩))
      refine wp_cond_true (FF24.ev 0 rfl) ?_
      refine rg_c FF24 MM24 [(3, l_ 2 (pT t)), (0, c_ (.agg (cn .u8 (takN 32 (X.drop u)))) [(3, oC #[sB X, iN (u + 32)] 32)]), (1, s_ 0 (.cells ((cn .u8 K) ++ (cn .u8 (takN 32 (X.drop u)))) 88))] 5 [] [] (⟨rfl, rfl, (callU_turn en_rkey (g := t) (ob := RB X u) rfl fun w hg => by have h0 := rkey_any t X u hX (by omega) w hg; exact h0), rfl, (by rw [Array.size_append]; simp only [cn_size, hK.1, takN_len]; omega), ((cn_size _ _).trans (takN_len _ _)), (cn_one _ _), rfl, (by have h0 := setFrom_snd (X := K) (Y := K) (Z := takN 32 (X.drop u)) (by rw [hK.1, takN_len]); rw [hK.1] at h0; exact h0), fun _ _ FF25 MM25 => ?_⟩)
      refine then_n ?_
      refine late_open (N := 11) [10] (by kernel_rfl) (by kernel_rfl) MM25 fun wq26 MM27 => ?_
      refine late_take FF25 (i := 0) (oi := (opAt Try.f14 5 0)) (v := (pT q)) (d := 22) MM27.hasL (by kernel_rfl) (by kernel_rfl) (by kernel_rfl) (by kernel_rfl) (by kernel_rfl) (fun _ _ _ _ _ h => h) (by kernel_rfl) (by decide) (by kernel_rfl) (mvV (x := (.tmp 0)) (by kernel_rfl) rfl) fun _ FF28 => ?_
      refine late_take FF28 (i := 1) (oi := (opAt Try.f14 5 1)) (v := (pT q)) (d := 23) MM27.hasL (by kernel_rfl) (by kernel_rfl) (by kernel_rfl) (by kernel_rfl) (by kernel_rfl) (fun _ _ _ _ _ h => h) (by kernel_rfl) (by decide) (by kernel_rfl) (mvV (x := (.tmp 0)) (by kernel_rfl) rfl) fun _ FF29 => ?_
      refine late_take FF29 (i := 2) (oi := (opAt Try.f14 5 2)) (v := (pT q)) (d := 24) MM27.hasL (by kernel_rfl) (by kernel_rfl) (by kernel_rfl) (by kernel_rfl) (by kernel_rfl) (fun _ _ _ _ _ h => h) (by kernel_rfl) (by decide) (by kernel_rfl) (nilV (x := (.tmp 23)) (by kernel_rfl) rfl) fun _ FF30 => ?_
      refine late_take FF30 (i := 3) (oi := (opAt Try.f14 5 3)) (v := (.pointer (some ⟨q, 2, none⟩))) (d := 25) MM27.hasL (by kernel_rfl) (by kernel_rfl) (by kernel_rfl) (by kernel_rfl) (by kernel_rfl) (fun _ _ _ _ _ h => h) (by kernel_rfl) (by decide) (by kernel_rfl) (fldV (x := (.tmp 24)) (t := 37) (k := 2) (cs := []) (by kernel_rfl) rfl (by kernel_rfl)) fun _ FF31 => ?_
      refine late_take FF31 (i := 4) (oi := (opAt Try.f14 5 4)) (v := (.slice pv1 ks.length cv1)) (d := 26) MM27.hasL (by kernel_rfl) (by kernel_rfl) (by kernel_rfl) (by kernel_rfl) (by kernel_rfl) (fun _ _ _ _ _ h => h) (by kernel_rfl) (by decide) (by kernel_rfl) (loadVi (x := (.tmp 25)) (k := 2) (by kernel_rfl) rfl Try.underlying33 rfl rfl rfl) fun _ FF32 => ?_
      refine late_take FF32 (i := 5) (oi := (opAt Try.f14 5 5)) (v := (.agg ((cn .u8 K) ++ (cn .u8 (takN 32 (X.drop u)))))) (d := 27) MM27.hasL (by kernel_rfl) (by kernel_rfl) (by kernel_rfl) (by kernel_rfl) (by kernel_rfl) (fun _ _ _ _ _ h => h) (by kernel_rfl) (by decide) (by kernel_rfl) (loadRi (x := (.tmp 4)) (k := 0) (m := 64) (by kernel_rfl) rfl Try.underlying88 rfl (by kernel_rfl) rfl (by simp [cn_size, hK.1, (takN_len _ _)])) fun _ FF33 => ?_
      refine late_one (i := 6) (oi := (opAt Try.f14 5 6)) (by kernel_rfl) (by kernel_rfl) ?_
      refine rp_c 1 FF33 MM27 [(0, s_ 0 (.cells ((cn .u8 K) ++ (cn .u8 (takN 32 (X.drop u)))) 88))] 23 [26, 28] [] (⟨(buildS_fits (len := 1) (sz := 64) (n := 64) Try.underlying33 (by kernel_rfl) rfl rfl (ns := []) ⟨rfl, (show ((cn .u8 K) ++ (cn .u8 (takN 32 (X.drop u)))).size = 64 from (by simp [cn_size, hK.1, (takN_len _ _)])), rfl⟩ rfl), fun bq => fun _ _ FF34 MM34 => ?_⟩)
      refine wpl_nil (onN_n ⟨fun _ => (Has.tl MM34.hasL), ?_⟩)
      refine late_one (i := 7) (oi := (opAt Try.f14 5 7)) (by kernel_rfl) (by kernel_rfl) ?_
      refine st_app [22, 4, 3, 0, 29] FF34 MM34 (d := 29) (s := 26) (x := 28) (Y := (cn .u8 K ++ cn .u8 (takN 32 (X.drop u))).toList) (z := .agg ((cn .u8 (List.replicate 32 0)) ++ (cn .u8 (List.replicate 32 0)))) (bb := 64) rfl rfl rfl (by rw [pairC_cn]; simp [pairC, bcells, hK.1, takN_len]) (lies_lit (MM34.get 0 rfl)) (by rw [pairC_cn]; exact pairC_one _) (by decide) Try.underlying33 (by kernel_rfl) rfl (by decide) (by simp only [maxLen]; omega) (by omega) rfl rfl (by decide) fun ac36 wd36 rv35 FF36 MM36 => ?_
      obtain ⟨rp, rc, rfl, _⟩ := MM36.rowLen
      refine wpl_nil (onN_n ⟨fun _ => (Has.tl MM36.hasL), ?_⟩)
      refine late_one (i := 8) (oi := (opAt Try.f14 5 8)) (by kernel_rfl) (by kernel_rfl) ?_
      refine rp_c 1 FF36 MM36 [] 31 [] [22] (fun _ _ FF37 MM37 => ?_)
      refine wpl_nil (onN_n ⟨fun _ => (Has.tl MM37.hasL), ?_⟩)
      refine late_take FF37 (i := 9) (oi := (opAt Try.f14 5 9)) (v := (.pointer (some ⟨q, 2, none⟩))) (d := 31) (Has.tl MM37.hasL) (by kernel_rfl) (by kernel_rfl) (by kernel_rfl) (by kernel_rfl) (by kernel_rfl) (fun _ _ _ _ _ h => h) (by kernel_rfl) (by decide) (by kernel_rfl) (fldV (x := (.tmp 30)) (t := 37) (k := 2) (cs := []) (by kernel_rfl) rfl (by kernel_rfl)) fun _ FF38 => ?_
      refine late_one (i := 10) (oi := (opAt Try.f14 5 10)) (by kernel_rfl) (by kernel_rfl) ?_
      refine rp_c 1 FF38 MM37 [(0, s_ 3 (oC #[.bool true, pT t, .slice rp (ks.length + 1) rc, v2, v3, iN f] 37))] 5 [] [] (⟨rfl, (by simp), (.inl rfl), rfl, fun _ wd39 FF39 MM39 => ?_⟩)
      refine wpl_nil (onN_n ⟨fun h => (h (by decide)).elim, ?_⟩)
      refine late_none (by kernel_rfl) ?_
      have Mz40 : MemS S w0 wd39 ((bq, .cells ((cn .u8 K) ++ (cn .u8 (takN 32 (X.drop u)))) 88) :: (bf, .cells ((cn .u8 K) ++ (cn .u8 (takN 32 (X.drop u)))) 88) :: (bk, .cells (cn .u8 K) 41) :: (q, oC #[.bool true, pT t, .slice rp (ks.length + 1) rc, v2, v3, iN f] 37) :: (t, oC #[sB X, iN (u + 32)] 32) :: L) ((.slice rp (ks.length + 1) rc, 88, 64, (ks ++ [(K, takN 32 (X.drop u))]).length, (keyC (ks ++ [(K, takN 32 (X.drop u))]))) :: (v2, 93, 32, is.length, (keyC is)) :: (v3, 101, 46, dn.length, (notC dn)) :: R) := by rw [← keyC_app, ← pairC_cn, List.length_append]; exact MM39
      exact (end_none FF39 Try.results14 (by rw [(share_no hg _).1, (share_no hg []).2]; exact ⟨rfl, _, (((Mz40.dropAt 2).dropAt 1).dropAt 0)⟩))
  | some own =>
    refine wp_seq (rg_c FF4 MM4 [(1, b_ 0), (0, u_ 1 (iN (kix K ks))), (0, w_ 2)] 4 [8] [] (⟨rfl, ((cn_size _ _).trans hK.1), ⟨en_bkey, fun w Hw => bkey_yes hg hk hl hK hR w (has_cons (Hw 1 _ rfl) (Has.tl (Has.tl (Has.tl Hw)))) ((MM4.dropAt 2).dropAt 0).distinct⟩, (Nat.zero_le _), fun _ wd41 FF41 MM41 => then_n ?_⟩))
    refine wp_cond_true (FF41.ev 0 rfl) ?_
    have Mz42 : MemS S w0 wd41 ((bk, .cells (cn .u8 K) 41) :: (q, oC #[.bool i, pT t, .slice pv1 ks.length cv1, v2, v3, iN f] 37) :: (t, oC #[sB X, iN u] 32) :: L) ((.slice pv1 ks.length cv1, 88, 64, ks.length, (keyC ks)) :: (v2, 93, 32, is.length, (keyC is)) :: (v3, 101, 46, dn.length, (notC dn)) :: R) := MemS.thw (K := [(bk, .cells (cn .u8 K) 41), (q, oC #[.bool i, pT t, .slice pv1 ks.length cv1, v2, v3, iN f] 37), (t, oC #[sB X, iN u] 32)]) (O := L) MM41 hFv1
    refine wp_ret ?_
    repeat first | refine then_ret ?_ | refine inb_ret ?_
    exact (ret_none FF41 Try.results14 (by rw [(share_yes hg _).1, (share_yes hg []).2]; exact ⟨rfl, _, (Mz42.dropAt 0)⟩))
end Go.Proofs.Ytniplfjnpjihoaa
namespace Go.Proofs.Ytniplfjnpjihoaa
open Go.RowKit
set_option maxRecDepth 100000 in
theorem bshareid_any {S : Nat → Prop} {w0 : World} {L : Blks} {R : List Row} {q t : Nat} {i : Bool} {v1 v2 v3 : Value} {f u : Nat} {X : List Nat} {ks is : Pairs} {dn : Notes} {K : List Nat} (hk : OkP 16 is) (hl : is.length ≤ 1000000) (hK : BytesK 16 K) (hX : ∀ i, X.getD i 0 < 256) (hu : u < 4611686018427000000) (w : World) (M : MemS S w0 w ((q, QB i (pT t) v1 v2 v3 f) :: (t, RB X u) :: L) ((v1, 88, 64, ks.length, (keyC ks)) :: (v2, 93, 32, is.length, (keyC is)) :: (v3, 101, 46, dn.length, (notC dn)) :: R)) :
    Calls Try.prog 17 #[pT q, .agg (cn .u8 K)] w fun e w' => e = .returned (.tuple #[]) ∧ ∃ v, MemS S w0 w' ((q, QB i (pT t) v1 v v3 f) :: (t, RB X (u + shareU i 16 K is)) :: L) ((v1, 88, 64, ks.length, (keyC ks)) :: (v, 93, 32, (shareK i 16 K is (X.drop u)).length, (keyC (shareK i 16 K is (X.drop u)))) :: (v3, 101, 46, dn.length, (notC dn)) :: R) := by
  refine enter_fr Try.func17 rfl Try.ntmps17 (by simp) fun ac (FF : Fr 48 ac [(0, pT q), (1, .agg (cn .u8 K))]) => ?_
  have Mz1 : MemS S w0 w ((q, oC #[.bool i, pT t, v1, v2, v3, iN f] 37) :: (t, oC #[sB X, iN u] 32) :: L) ((v2, 93, 32, is.length, (keyC is)) :: (v1, 88, 64, ks.length, (keyC ks)) :: (v3, 101, 46, dn.length, (notC dn)) :: R) := M.rowsPerm (List.perm_middle (l₁ := [(v1, 88, 64, ks.length, (keyC ks))]))
  obtain ⟨O2, pv2, cv2, Mf3, hFv2, rfl, hR⟩ := MemS.frz (K := [(q, oC #[.bool i, pT t, v1, v2, v3, iN f] 37), (t, oC #[sB X, iN u] 32)]) (O := L) Mz1
  have Mz4 : MemS S w0 w ((q, oC #[.bool i, pT t, v1, .slice pv2 is.length cv2, v3, iN f] 37) :: (t, oC #[sB X, iN u] 32) :: O2) ((v1, 88, 64, ks.length, (keyC ks)) :: (v3, 101, 46, dn.length, (notC dn)) :: R) := Mf3
  refine wp_seq (rg_c FF Mz4 [(0, s_ 0 (.cells (cn .u8 K) 50))] 1 [3] [] (⟨(by kernel_rfl), fun bk => fun _ _ FF5 MM5 => then_n ?_⟩))
  refine wp_seq ?_
  cases hg : mget K is with
  | none =>
    refine wp_seq (rg_c FF5 MM5 [] 5 [] [] (fun _ _ FF6 MM6 => then_n ?_))
    refine wp_for2 (fun a' w' => ∃ j : Nat, j ≤ is.length ∧ Fr 48 a' [(4, iN j), (3, pT bk), (0, pT q)] ∧ MemS S w0 w' ((bk, .cells (cn .u8 K) 50) :: (q, oC #[.bool i, pT t, v1, .slice pv2 is.length cv2, v3, iN f] 37) :: (t, oC #[sB X, iN u] 32) :: O2) ((v1, 88, 64, ks.length, (keyC ks)) :: (v3, 101, 46, dn.length, (notC dn)) :: R)) (fun a' _ => (is.length - cnt 4 a').toNat) ⟨0, Nat.zero_le _, FF6.pick [0, 1, 2], MM6⟩ ?_
    rintro ac7 wd7 ⟨j, hj, FF7, MM7⟩
    have hc := cnt_of (FF7.get 0 rfl)
    refine rg_c FF7 MM7 [(4, l_ 1 (.slice pv2 is.length cv2))] 5 [12] [] (⟨rfl, rfl, fun _ wd8 FF8 MM8 => ?_⟩)
    by_cases hlt : j < is.length
    · skip
      refine then_n (.inl ⟨(FF8.ev 0 rfl).trans (dec_t hlt), ?_⟩)
      refine wp_seq (rg_dc 10 FF8 MM8 [(3, l_ 1 (.slice pv2 is.length cv2)), (1, f_ (.pointer (some ⟨gOf pv2, oOf pv2 + j * 32, none⟩))), (1, f_ (.agg (cn .u8 (fstAt is j)))), (0, b_ 0), (0, f_ (.bool false))] [] 5 [24] [] (⟨rfl, rfl, (rowX_addr (x := (.tmp 18)) (y := (.tmp 19)) (k := 32) (i := j) (by kernel_rfl) rfl rfl Try.underlying34 (by kernel_rfl) hR (by omega) (by omega)), (rowX_loadA (x := (.tmp 21)) (j := j * 32) (k := 16) (vs := (cn .u8 (fstAt is j)).toList) (by kernel_rfl) rfl Try.underlying50 rfl (by kernel_rfl) (by rw [Array.length_toList, cn_size]; exact (fst_ok hk hlt).1) hR (fun _ hx => List.mem_cons_of_mem _ (List.mem_cons_of_mem _ (List.mem_cons_of_mem _ (hx)))) (by omega) (by decide) (fst_cells hk hlt)), rfl, ((cn_size _ _).trans hK.1), (eqA_ok (t := 50) (t' := 50) (e := 5) (m := 16) (k := .u8) (x := (.tmp 22)) (y := (.tmp 23)) (by kernel_rfl) Try.underlying50 Try.underlying5 (by kernel_rfl) (by kernel_rfl) (by kernel_rfl) rfl rfl (fst_ok hk hlt).1 hK.1 (decide_eq_false (none_ne hg hlt))), fun _ _ FF9 MM9 => then_n ?_⟩))
      refine wp_cond_false (FF9.ev 0 rfl) ?_
      refine wp_skip ?_
      refine inb_n (then_n ?_)
      refine rg_c FF9 MM9 [] 5 [] [] (⟨by omega, fun _ _ FF10 MM10 => ?_⟩)
      have hd := cnt_of (FF10.get 0 rfl)
      refine then_n ⟨⟨j + 1, by omega, FF10.pick [0, 1, 2], MM10⟩, ?_⟩
      rw [hc, hd]; omega
    · skip
      refine then_n (.inr ⟨(FF8.ev 0 rfl).trans (dec_f hlt), ?_⟩)
      refine then_n ?_
      have Mz11 : MemS S w0 wd8 ((bk, .cells (cn .u8 K) 50) :: (q, oC #[.bool i, pT t, v1, .slice pv2 is.length cv2, v3, iN f] 37) :: (t, oC #[sB X, iN u] 32) :: L) ((.slice pv2 is.length cv2, 93, 32, is.length, (keyC is)) :: (v1, 88, 64, ks.length, (keyC ks)) :: (v3, 101, 46, dn.length, (notC dn)) :: R) := MemS.thw (K := [(bk, .cells (cn .u8 K) 50), (q, oC #[.bool i, pT t, v1, .slice pv2 is.length cv2, v3, iN f] 37), (t, oC #[sB X, iN u] 32)]) (O := L) MM8 hFv2
      refine wp_seq (rg_c FF8 Mz11 [(0, b_ 0), (0, b_ 0), (0, f_ (.agg ((cn .u8 K) ++ (cn .u8 K)))), (0, s_ 0 (.cells ((cn .u8 (List.replicate 16 0)) ++ (cn .u8 (List.replicate 16 0))) 93)), (0, b_ 0)] 6 [] [] (⟨rfl, ((cn_size _ _).trans hK.1), rfl, ((cn_size _ _).trans hK.1), (build_ok (t := 93) (ps := #[(0, (.tmp 25)), (1, (.tmp 26))]) (by kernel_rfl) rfl (built_fits (pl := [(0, 16), (16, 16)]) (tot := 32) (n := 16) (by kernel_rfl) (by kernel_rfl) (ns := [16]) ⟨rfl, (show (cn .u8 K).size = 16 from ((cn_size _ _).trans hK.1)), rfl, (show (cn .u8 K).size = 16 from ((cn_size _ _).trans hK.1)), rfl⟩ rfl)), (by kernel_rfl), fun bf => ⟨rfl, (by simp [cn_size]), (by simp [cn_size, hK.1]), (one_app (cn_one _ _) (cn_one _ _)), rfl, fun _ _ FF12 MM12 => then_n ?_⟩⟩))
      refine wp_seq ?_
      cases i with
      | false =>
        refine wp_seq (rg_c FF12 MM12 [(3, l_ 2 (.bool false))] 6 [31] [] (⟨rfl, rfl, fun _ _ FF13 MM13 => then_n ?_⟩))
        refine wp_cond_false (FF13.ev 0 rfl) ?_
        refine wp_skip ?_
        refine then_n ?_
        refine late_open (N := 11) [10] (by kernel_rfl) (by kernel_rfl) MM13 fun wq14 MM15 => ?_
        refine late_take FF13 (i := 0) (oi := (opAt Try.f17 8 0)) (v := (pT q)) (d := 38) MM15.hasL (by kernel_rfl) (by kernel_rfl) (by kernel_rfl) (by kernel_rfl) (by kernel_rfl) (fun _ _ _ _ _ h => h) (by kernel_rfl) (by decide) (by kernel_rfl) (mvV (x := (.tmp 0)) (by kernel_rfl) rfl) fun _ FF16 => ?_
        refine late_take FF16 (i := 1) (oi := (opAt Try.f17 8 1)) (v := (pT q)) (d := 39) MM15.hasL (by kernel_rfl) (by kernel_rfl) (by kernel_rfl) (by kernel_rfl) (by kernel_rfl) (fun _ _ _ _ _ h => h) (by kernel_rfl) (by decide) (by kernel_rfl) (mvV (x := (.tmp 0)) (by kernel_rfl) rfl) fun _ FF17 => ?_
        refine late_take FF17 (i := 2) (oi := (opAt Try.f17 8 2)) (v := (pT q)) (d := 40) MM15.hasL (by kernel_rfl) (by kernel_rfl) (by kernel_rfl) (by kernel_rfl) (by kernel_rfl) (fun _ _ _ _ _ h => h) (by kernel_rfl) (by decide) (by kernel_rfl) (nilV (x := (.tmp 39)) (by kernel_rfl) rfl) fun _ FF18 => ?_
        refine late_take FF18 (i := 3) (oi := (opAt Try.f17 8 3)) (v := (.pointer (some ⟨q, 3, none⟩))) (d := 41) MM15.hasL (by kernel_rfl) (by kernel_rfl) (by kernel_rfl) (by kernel_rfl) (by kernel_rfl) (fun _ _ _ _ _ h => h) (by kernel_rfl) (by decide) (by kernel_rfl) (fldV (x := (.tmp 40)) (t := 37) (k := 3) (cs := []) (by kernel_rfl) rfl (by kernel_rfl)) fun _ FF19 => ?_
        refine late_take FF19 (i := 4) (oi := (opAt Try.f17 8 4)) (v := (.slice pv2 is.length cv2)) (d := 42) MM15.hasL (by kernel_rfl) (by kernel_rfl) (by kernel_rfl) (by kernel_rfl) (by kernel_rfl) (fun _ _ _ _ _ h => h) (by kernel_rfl) (by decide) (by kernel_rfl) (loadVi (x := (.tmp 41)) (k := 2) (by kernel_rfl) rfl Try.underlying34 rfl rfl rfl) fun _ FF20 => ?_
        refine late_take FF20 (i := 5) (oi := (opAt Try.f17 8 5)) (v := (.agg ((cn .u8 K) ++ (cn .u8 K)))) (d := 43) MM15.hasL (by kernel_rfl) (by kernel_rfl) (by kernel_rfl) (by kernel_rfl) (by kernel_rfl) (fun _ _ _ _ _ h => h) (by kernel_rfl) (by decide) (by kernel_rfl) (loadRi (x := (.tmp 5)) (k := 0) (m := 32) (by kernel_rfl) rfl Try.underlying93 rfl (by kernel_rfl) rfl (by simp [cn_size, hK.1])) fun _ FF21 => ?_
        refine late_one (i := 6) (oi := (opAt Try.f17 8 6)) (by kernel_rfl) (by kernel_rfl) ?_
        refine rp_c 1 FF21 MM15 [(0, s_ 0 (.cells ((cn .u8 K) ++ (cn .u8 K)) 93))] 39 [42, 44] [31] (⟨(buildS_fits (len := 1) (sz := 32) (n := 32) Try.underlying34 (by kernel_rfl) rfl rfl (ns := []) ⟨rfl, (show ((cn .u8 K) ++ (cn .u8 K)).size = 32 from (by simp [cn_size, hK.1])), rfl⟩ rfl), fun bq => fun _ _ FF22 MM22 => ?_⟩)
        refine wpl_nil (onN_n ⟨fun _ => (Has.tl MM22.hasL), ?_⟩)
        refine late_one (i := 7) (oi := (opAt Try.f17 8 7)) (by kernel_rfl) (by kernel_rfl) ?_
        refine st_app [38, 5, 4, 3, 0, 45] FF22 MM22 (d := 45) (s := 42) (x := 44) (Y := (cn .u8 K ++ cn .u8 (K)).toList) (z := .agg ((cn .u8 (List.replicate 16 0)) ++ (cn .u8 (List.replicate 16 0)))) (bb := 32) rfl rfl rfl (by rw [pairC_cn]; simp [pairC, bcells, hK.1]) (lies_lit (MM22.get 0 rfl)) (by rw [pairC_cn]; exact pairC_one _) (by decide) Try.underlying34 (by kernel_rfl) rfl (by decide) (by simp only [maxLen]; omega) (by omega) rfl rfl (by decide) fun ac24 wd24 rv23 FF24 MM24 => ?_
        obtain ⟨rp, rc, rfl, _⟩ := MM24.rowLen
        refine wpl_nil (onN_n ⟨fun _ => (Has.tl MM24.hasL), ?_⟩)
        refine late_one (i := 8) (oi := (opAt Try.f17 8 8)) (by kernel_rfl) (by kernel_rfl) ?_
        refine rp_c 1 FF24 MM24 [] 47 [] [38] (fun _ _ FF25 MM25 => ?_)
        refine wpl_nil (onN_n ⟨fun _ => (Has.tl MM25.hasL), ?_⟩)
        refine late_take FF25 (i := 9) (oi := (opAt Try.f17 8 9)) (v := (.pointer (some ⟨q, 3, none⟩))) (d := 47) (Has.tl MM25.hasL) (by kernel_rfl) (by kernel_rfl) (by kernel_rfl) (by kernel_rfl) (by kernel_rfl) (fun _ _ _ _ _ h => h) (by kernel_rfl) (by decide) (by kernel_rfl) (fldV (x := (.tmp 46)) (t := 37) (k := 3) (cs := []) (by kernel_rfl) rfl (by kernel_rfl)) fun _ FF26 => ?_
        refine late_one (i := 10) (oi := (opAt Try.f17 8 10)) (by kernel_rfl) (by kernel_rfl) ?_
        refine rp_c 1 FF26 MM25 [(0, s_ 3 (oC #[.bool false, pT t, v1, .slice rp (is.length + 1) rc, v3, iN f] 37))] 6 [] [] (⟨rfl, (by simp), (.inl rfl), rfl, fun _ wd27 FF27 MM27 => ?_⟩)
        refine wpl_nil (onN_n ⟨fun h => (h (by decide)).elim, ?_⟩)
        refine late_none (by kernel_rfl) ?_
        have Mz28 : MemS S w0 wd27 ((bq, .cells ((cn .u8 K) ++ (cn .u8 K)) 93) :: (bf, .cells ((cn .u8 K) ++ (cn .u8 K)) 93) :: (bk, .cells (cn .u8 K) 50) :: (q, oC #[.bool false, pT t, v1, .slice rp (is.length + 1) rc, v3, iN f] 37) :: (t, oC #[sB X, iN u] 32) :: L) ((.slice rp (is.length + 1) rc, 93, 32, (is ++ [(K, K)]).length, (keyC (is ++ [(K, K)]))) :: (v1, 88, 64, ks.length, (keyC ks)) :: (v3, 101, 46, dn.length, (notC dn)) :: R) := by rw [← keyC_app, ← pairC_cn, List.length_append]; exact MM27
        have Mz29 : MemS S w0 wd27 ((bq, .cells ((cn .u8 K) ++ (cn .u8 K)) 93) :: (bf, .cells ((cn .u8 K) ++ (cn .u8 K)) 93) :: (bk, .cells (cn .u8 K) 50) :: (q, oC #[.bool false, pT t, v1, .slice rp (is.length + 1) rc, v3, iN f] 37) :: (t, oC #[sB X, iN u] 32) :: L) ((v1, 88, 64, ks.length, (keyC ks)) :: (.slice rp (is.length + 1) rc, 93, 32, (is ++ [(K, K)]).length, (keyC (is ++ [(K, K)]))) :: (v3, 101, 46, dn.length, (notC dn)) :: R) := Mz28.rowsPerm (List.perm_middle (l₁ := [(v1, 88, 64, ks.length, (keyC ks))])).symm
        exact (end_none FF27 Try.results17 (by rw [(share_no hg _).1, (share_no hg []).2]; exact ⟨rfl, _, (((Mz29.dropAt 2).dropAt 1).dropAt 0)⟩))
      | true =>
        refine wp_seq (rg_c FF12 MM12 [(3, l_ 2 (.bool true))] 6 [31] [] (⟨rfl, rfl, fun _ _ FF30 MM30 => then_n ?_⟩))
        refine wp_cond_true (FF30.ev 0 rfl) ?_
        refine rg_c FF30 MM30 [(3, l_ 2 (pT t)), (0, c_ (.agg (cn .u8 (takN 16 (X.drop u)))) [(3, oC #[sB X, iN (u + 16)] 32)]), (1, s_ 0 (.cells ((cn .u8 K) ++ (cn .u8 (takN 16 (X.drop u)))) 93))] 6 [] [] (⟨rfl, rfl, (callU_turn en_rid_ (g := t) (ob := RB X u) rfl fun w hg => by have h0 := rid__any t X u hX (by omega) w hg; exact h0), rfl, (by rw [Array.size_append]; simp only [cn_size, hK.1, takN_len]; omega), ((cn_size _ _).trans (takN_len _ _)), (cn_one _ _), rfl, (by have h0 := setFrom_snd (X := K) (Y := K) (Z := takN 16 (X.drop u)) (by rw [hK.1, takN_len]); rw [hK.1] at h0; exact h0), fun _ _ FF31 MM31 => ?_⟩)
        refine then_n ?_
        refine late_open (N := 11) [10] (by kernel_rfl) (by kernel_rfl) MM31 fun wq32 MM33 => ?_
        refine late_take FF31 (i := 0) (oi := (opAt Try.f17 8 0)) (v := (pT q)) (d := 38) MM33.hasL (by kernel_rfl) (by kernel_rfl) (by kernel_rfl) (by kernel_rfl) (by kernel_rfl) (fun _ _ _ _ _ h => h) (by kernel_rfl) (by decide) (by kernel_rfl) (mvV (x := (.tmp 0)) (by kernel_rfl) rfl) fun _ FF34 => ?_
        refine late_take FF34 (i := 1) (oi := (opAt Try.f17 8 1)) (v := (pT q)) (d := 39) MM33.hasL (by kernel_rfl) (by kernel_rfl) (by kernel_rfl) (by kernel_rfl) (by kernel_rfl) (fun _ _ _ _ _ h => h) (by kernel_rfl) (by decide) (by kernel_rfl) (mvV (x := (.tmp 0)) (by kernel_rfl) rfl) fun _ FF35 => ?_
        refine late_take FF35 (i := 2) (oi := (opAt Try.f17 8 2)) (v := (pT q)) (d := 40) MM33.hasL (by kernel_rfl) (by kernel_rfl) (by kernel_rfl) (by kernel_rfl) (by kernel_rfl) (fun _ _ _ _ _ h => h) (by kernel_rfl) (by decide) (by kernel_rfl) (nilV (x := (.tmp 39)) (by kernel_rfl) rfl) fun _ FF36 => ?_
        refine late_take FF36 (i := 3) (oi := (opAt Try.f17 8 3)) (v := (.pointer (some ⟨q, 3, none⟩))) (d := 41) MM33.hasL (by kernel_rfl) (by kernel_rfl) (by kernel_rfl) (by kernel_rfl) (by kernel_rfl) (fun _ _ _ _ _ h => h) (by kernel_rfl) (by decide) (by kernel_rfl) (fldV (x := (.tmp 40)) (t := 37) (k := 3) (cs := []) (by kernel_rfl) rfl (by kernel_rfl)) fun _ FF37 => ?_
        refine late_take FF37 (i := 4) (oi := (opAt Try.f17 8 4)) (v := (.slice pv2 is.length cv2)) (d := 42) MM33.hasL (by kernel_rfl) (by kernel_rfl) (by kernel_rfl) (by kernel_rfl) (by kernel_rfl) (fun _ _ _ _ _ h => h) (by kernel_rfl) (by decide) (by kernel_rfl) (loadVi (x := (.tmp 41)) (k := 2) (by kernel_rfl) rfl Try.underlying34 rfl rfl rfl) fun _ FF38 => ?_
        refine late_take FF38 (i := 5) (oi := (opAt Try.f17 8 5)) (v := (.agg ((cn .u8 K) ++ (cn .u8 (takN 16 (X.drop u)))))) (d := 43) MM33.hasL (by kernel_rfl) (by kernel_rfl) (by kernel_rfl) (by kernel_rfl) (by kernel_rfl) (fun _ _ _ _ _ h => h) (by kernel_rfl) (by decide) (by kernel_rfl) (loadRi (x := (.tmp 5)) (k := 0) (m := 32) (by kernel_rfl) rfl Try.underlying93 rfl (by kernel_rfl) rfl (by simp [cn_size, hK.1, (takN_len _ _)])) fun _ FF39 => ?_
        refine late_one (i := 6) (oi := (opAt Try.f17 8 6)) (by kernel_rfl) (by kernel_rfl) ?_
        refine rp_c 1 FF39 MM33 [(0, s_ 0 (.cells ((cn .u8 K) ++ (cn .u8 (takN 16 (X.drop u)))) 93))] 39 [42, 44] [] (⟨(buildS_fits (len := 1) (sz := 32) (n := 32) Try.underlying34 (by kernel_rfl) rfl rfl (ns := []) ⟨rfl, (show ((cn .u8 K) ++ (cn .u8 (takN 16 (X.drop u)))).size = 32 from (by simp [cn_size, hK.1, (takN_len _ _)])), rfl⟩ rfl), fun bq => fun _ _ FF40 MM40 => ?_⟩)
        refine wpl_nil (onN_n ⟨fun _ => (Has.tl MM40.hasL), ?_⟩)
        refine late_one (i := 7) (oi := (opAt Try.f17 8 7)) (by kernel_rfl) (by kernel_rfl) ?_
        refine st_app [38, 5, 4, 3, 0, 45] FF40 MM40 (d := 45) (s := 42) (x := 44) (Y := (cn .u8 K ++ cn .u8 (takN 16 (X.drop u))).toList) (z := .agg ((cn .u8 (List.replicate 16 0)) ++ (cn .u8 (List.replicate 16 0)))) (bb := 32) rfl rfl rfl (by rw [pairC_cn]; simp [pairC, bcells, hK.1, takN_len]) (lies_lit (MM40.get 0 rfl)) (by rw [pairC_cn]; exact pairC_one _) (by decide) Try.underlying34 (by kernel_rfl) rfl (by decide) (by simp only [maxLen]; omega) (by omega) rfl rfl (by decide) fun ac42 wd42 rv41 FF42 MM42 => ?_
        obtain ⟨rp, rc, rfl, _⟩ := MM42.rowLen
        refine wpl_nil (onN_n ⟨fun _ => (Has.tl MM42.hasL), ?_⟩)
        refine late_one (i := 8) (oi := (opAt Try.f17 8 8)) (by kernel_rfl) (by kernel_rfl) ?_
        refine rp_c 1 FF42 MM42 [] 47 [] [38] (fun _ _ FF43 MM43 => ?_)
        refine wpl_nil (onN_n ⟨fun _ => (Has.tl MM43.hasL), ?_⟩)
        refine late_take FF43 (i := 9) (oi := (opAt Try.f17 8 9)) (v := (.pointer (some ⟨q, 3, none⟩))) (d := 47) (Has.tl MM43.hasL) (by kernel_rfl) (by kernel_rfl) (by kernel_rfl) (by kernel_rfl) (by kernel_rfl) (fun _ _ _ _ _ h => h) (by kernel_rfl) (by decide) (by kernel_rfl) (fldV (x := (.tmp 46)) (t := 37) (k := 3) (cs := []) (by kernel_rfl) rfl (by kernel_rfl)) fun _ FF44 => ?_
        refine late_one (i := 10) (oi := (opAt Try.f17 8 10)) (by kernel_rfl) (by kernel_rfl) ?_
        refine rp_c 1 FF44 MM43 [(0, s_ 3 (oC #[.bool true, pT t, v1, .slice rp (is.length + 1) rc, v3, iN f] 37))] 6 [] [] (⟨rfl, (by simp), (.inl rfl), rfl, fun _ wd45 FF45 MM45 => ?_⟩)
        refine wpl_nil (onN_n ⟨fun h => (h (by decide)).elim, ?_⟩)
        refine late_none (by kernel_rfl) ?_
        have Mz46 : MemS S w0 wd45 ((bq, .cells ((cn .u8 K) ++ (cn .u8 (takN 16 (X.drop u)))) 93) :: (bf, .cells ((cn .u8 K) ++ (cn .u8 (takN 16 (X.drop u)))) 93) :: (bk, .cells (cn .u8 K) 50) :: (q, oC #[.bool true, pT t, v1, .slice rp (is.length + 1) rc, v3, iN f] 37) :: (t, oC #[sB X, iN (u + 16)] 32) :: L) ((.slice rp (is.length + 1) rc, 93, 32, (is ++ [(K, takN 16 (X.drop u))]).length, (keyC (is ++ [(K, takN 16 (X.drop u))]))) :: (v1, 88, 64, ks.length, (keyC ks)) :: (v3, 101, 46, dn.length, (notC dn)) :: R) := by rw [← keyC_app, ← pairC_cn, List.length_append]; exact MM45
        have Mz47 : MemS S w0 wd45 ((bq, .cells ((cn .u8 K) ++ (cn .u8 (takN 16 (X.drop u)))) 93) :: (bf, .cells ((cn .u8 K) ++ (cn .u8 (takN 16 (X.drop u)))) 93) :: (bk, .cells (cn .u8 K) 50) :: (q, oC #[.bool true, pT t, v1, .slice rp (is.length + 1) rc, v3, iN f] 37) :: (t, oC #[sB X, iN (u + 16)] 32) :: L) ((v1, 88, 64, ks.length, (keyC ks)) :: (.slice rp (is.length + 1) rc, 93, 32, (is ++ [(K, takN 16 (X.drop u))]).length, (keyC (is ++ [(K, takN 16 (X.drop u))]))) :: (v3, 101, 46, dn.length, (notC dn)) :: R) := Mz46.rowsPerm (List.perm_middle (l₁ := [(v1, 88, 64, ks.length, (keyC ks))])).symm
        exact (end_none FF45 Try.results17 (by rw [(share_no hg _).1, (share_no hg []).2]; exact ⟨rfl, _, (((Mz47.dropAt 2).dropAt 1).dropAt 0)⟩))
  | some own =>
    obtain ⟨hx1, hx2⟩ := kix_lt hg
    obtain ⟨hx3, hx4⟩ := kix_fst hg
    refine wp_seq (rg_c FF5 MM5 [] 5 [] [] (fun _ _ FF48 MM48 => then_n ?_))
    refine wp_for2 (fun a' w' => ∃ j : Nat, j ≤ kix K is ∧ Fr 48 a' [(4, iN j), (3, pT bk), (0, pT q)] ∧ MemS S w0 w' ((bk, .cells (cn .u8 K) 50) :: (q, oC #[.bool i, pT t, v1, .slice pv2 is.length cv2, v3, iN f] 37) :: (t, oC #[sB X, iN u] 32) :: O2) ((v1, 88, 64, ks.length, (keyC ks)) :: (v3, 101, 46, dn.length, (notC dn)) :: R)) (fun a' _ => (is.length - cnt 4 a').toNat) ⟨0, Nat.zero_le _, FF48.pick [0, 1, 2], MM48⟩ ?_
    rintro ac49 wd49 ⟨j, hj, FF49, MM49⟩
    have hc := cnt_of (FF49.get 0 rfl)
    refine rg_c FF49 MM49 [(4, l_ 1 (.slice pv2 is.length cv2))] 5 [12] [] (⟨rfl, rfl, fun _ _ FF50 MM50 => ?_⟩)
    by_cases hlt : j < is.length
    · skip
      refine then_n (.inl ⟨(FF50.ev 0 rfl).trans (dec_t hlt), ?_⟩)
      by_cases hE : j = kix K is
      · skip
        refine wp_seq (rg_dc 10 FF50 MM50 [(3, l_ 1 (.slice pv2 is.length cv2)), (1, f_ (.pointer (some ⟨gOf pv2, oOf pv2 + j * 32, none⟩))), (1, f_ (.agg (cn .u8 (fstAt is j)))), (0, b_ 0), (0, f_ (.bool true))] [] 5 [24] [] (⟨rfl, rfl, (rowX_addr (x := (.tmp 18)) (y := (.tmp 19)) (k := 32) (i := j) (by kernel_rfl) rfl rfl Try.underlying34 (by kernel_rfl) hR (by omega) (by omega)), (rowX_loadA (x := (.tmp 21)) (j := j * 32) (k := 16) (vs := (cn .u8 (fstAt is j)).toList) (by kernel_rfl) rfl Try.underlying50 rfl (by kernel_rfl) (by rw [Array.length_toList, cn_size]; exact (fst_ok hk hlt).1) hR (fun _ hx => List.mem_cons_of_mem _ (List.mem_cons_of_mem _ (List.mem_cons_of_mem _ (hx)))) (by omega) (by decide) (fst_cells hk hlt)), rfl, ((cn_size _ _).trans hK.1), (eqA_ok (t := 50) (t' := 50) (e := 5) (m := 16) (k := .u8) (x := (.tmp 22)) (y := (.tmp 23)) (by kernel_rfl) Try.underlying50 Try.underlying5 (by kernel_rfl) (by kernel_rfl) (by kernel_rfl) rfl rfl (fst_ok hk hlt).1 hK.1 (by rw [hE]; exact decide_eq_true hx3)), fun _ wd51 FF51 MM51 => then_n ?_⟩))
        refine wp_cond_true (FF51.ev 0 rfl) ?_
        have Mz52 : MemS S w0 wd51 ((bk, .cells (cn .u8 K) 50) :: (q, oC #[.bool i, pT t, v1, .slice pv2 is.length cv2, v3, iN f] 37) :: (t, oC #[sB X, iN u] 32) :: L) ((.slice pv2 is.length cv2, 93, 32, is.length, (keyC is)) :: (v1, 88, 64, ks.length, (keyC ks)) :: (v3, 101, 46, dn.length, (notC dn)) :: R) := MemS.thw (K := [(bk, .cells (cn .u8 K) 50), (q, oC #[.bool i, pT t, v1, .slice pv2 is.length cv2, v3, iN f] 37), (t, oC #[sB X, iN u] 32)]) (O := L) MM51 hFv2
        have Mz53 : MemS S w0 wd51 ((bk, .cells (cn .u8 K) 50) :: (q, oC #[.bool i, pT t, v1, .slice pv2 is.length cv2, v3, iN f] 37) :: (t, oC #[sB X, iN u] 32) :: L) ((v1, 88, 64, ks.length, (keyC ks)) :: (.slice pv2 is.length cv2, 93, 32, is.length, (keyC is)) :: (v3, 101, 46, dn.length, (notC dn)) :: R) := Mz52.rowsPerm (List.perm_middle (l₁ := [(v1, 88, 64, ks.length, (keyC ks))])).symm
        refine wp_ret ?_
        repeat first | refine then_ret ?_ | refine inb_ret ?_
        exact (ret_none FF51 Try.results17 (by rw [(share_yes hg _).1, (share_yes hg []).2]; exact ⟨rfl, _, (Mz53.dropAt 0)⟩))
      · skip
        refine wp_seq (rg_dc 10 FF50 MM50 [(3, l_ 1 (.slice pv2 is.length cv2)), (1, f_ (.pointer (some ⟨gOf pv2, oOf pv2 + j * 32, none⟩))), (1, f_ (.agg (cn .u8 (fstAt is j)))), (0, b_ 0), (0, f_ (.bool false))] [] 5 [24] [] (⟨rfl, rfl, (rowX_addr (x := (.tmp 18)) (y := (.tmp 19)) (k := 32) (i := j) (by kernel_rfl) rfl rfl Try.underlying34 (by kernel_rfl) hR (by omega) (by omega)), (rowX_loadA (x := (.tmp 21)) (j := j * 32) (k := 16) (vs := (cn .u8 (fstAt is j)).toList) (by kernel_rfl) rfl Try.underlying50 rfl (by kernel_rfl) (by rw [Array.length_toList, cn_size]; exact (fst_ok hk hlt).1) hR (fun _ hx => List.mem_cons_of_mem _ (List.mem_cons_of_mem _ (List.mem_cons_of_mem _ (hx)))) (by omega) (by decide) (fst_cells hk hlt)), rfl, ((cn_size _ _).trans hK.1), (eqA_ok (t := 50) (t' := 50) (e := 5) (m := 16) (k := .u8) (x := (.tmp 22)) (y := (.tmp 23)) (by kernel_rfl) Try.underlying50 Try.underlying5 (by kernel_rfl) (by kernel_rfl) (by kernel_rfl) rfl rfl (fst_ok hk hlt).1 hK.1 (decide_eq_false (kix_ne hg (by omega)))), fun _ _ FF54 MM54 => then_n ?_⟩))
        refine wp_cond_false (FF54.ev 0 rfl) ?_
        refine wp_skip ?_
        refine inb_n (then_n ?_)
        refine rg_c FF54 MM54 [] 5 [] [] (⟨by omega, fun _ _ FF55 MM55 => ?_⟩)
        have hd := cnt_of (FF55.get 0 rfl)
        refine then_n ⟨⟨j + 1, by omega, FF55.pick [0, 1, 2], MM55⟩, ?_⟩
        rw [hc, hd]; omega
    · skip
      refine then_n (.inr ⟨(FF50.ev 0 rfl).trans (dec_f hlt), ?_⟩)
      refine then_n ?_
      omega
end Go.Proofs.Ytniplfjnpjihoaa
namespace Go.Proofs.Ytniplfjnpjihoaa
open Go.RowKit
set_option maxRecDepth 100000 in
theorem bseal_any {S : Nat → Prop} {w0 : World} {L : Blks} {R : List Row} {q t : Nat} {i : Bool} {v1 v2 v3 : Value} {f u : Nat} {X : List Nat} {ks is : Pairs} {dn : Notes} {K N Y : List Nat} (hk : OkP 32 ks) (hl : ks.length ≤ 1000000) (hd : dn.length ≤ 1000000) (hK : BytesK 32 K) (hN : BytesK 12 N) (hY : ∀ i, Y.getD i 0 < 256) (hYl : Y.length ≤ 300) (w : World) (M : MemS S w0 w ((q, QB i (pT t) v1 v2 v3 f) :: (t, RB X u) :: L) ((v1, 88, 64, ks.length, (keyC ks)) :: (v2, 93, 32, is.length, (keyC is)) :: (v3, 101, 46, dn.length, (notC dn)) :: R)) :
    Calls Try.prog 19 #[pT q, .agg (cn .u8 K), .agg (cn .u8 N), sB Y] w fun e w' => e = .returned (sB (boxN i K N ks Y)) ∧ ∃ v, MemS S w0 w' ((q, QB i (pT t) v1 v2 v f) :: (t, RB X u) :: L) ((v1, 88, 64, ks.length, (keyC ks)) :: (v2, 93, 32, is.length, (keyC is)) :: (v, 101, 46, (noteD i K N ks Y dn).length, (notC (noteD i K N ks Y dn))) :: R) := by
  refine enter_fr Try.func19 rfl Try.ntmps19 (by simp) fun ac (FF : Fr 50 ac [(0, pT q), (1, .agg (cn .u8 K)), (2, .agg (cn .u8 N)), (3, sB Y)]) => ?_
  obtain ⟨O1, pv1, cv1, Mf2, hFv1, rfl, hR⟩ := MemS.frz (K := [(q, oC #[.bool i, pT t, v1, v2, v3, iN f] 37), (t, oC #[sB X, iN u] 32)]) (O := L) M
  have Mz3 : MemS S w0 w ((q, oC #[.bool i, pT t, .slice pv1 ks.length cv1, v2, v3, iN f] 37) :: (t, oC #[sB X, iN u] 32) :: O1) ((v2, 93, 32, is.length, (keyC is)) :: (v3, 101, 46, dn.length, (notC dn)) :: R) := Mf2
  refine wp_seq (rg_c FF Mz3 [(0, s_ 0 (.cells (cn .u8 K) 41)), (0, s_ 0 (.cells (cn .u8 N) 44)), (0, t_ (sB []))] 9 [] [1, 2] (⟨(by kernel_rfl), fun bk => ⟨(by kernel_rfl), fun bn => ⟨(by kernel_rfl), fun _ _ FF4 MM4 => then_n ?_⟩⟩⟩))
  refine wp_seq ?_
  cases hg : mget K ks with
  | none =>
    refine wp_seq (rg_c FF4 MM4 [(1, b_ 1), (0, u_ 1 (.bool false))] 9 [13] [] (⟨rfl, ((cn_size _ _).trans hK.1), ⟨en_bshared, fun w Hw => by have h0 := bshared_any hk hl hK hR w (has_cons (Hw 2 _ rfl) (Has.tl (Has.tl (Has.tl (Has.tl Hw))))) (((MM4.dropAt 3).dropAt 1).dropAt 0).distinct; rw [hg] at h0; exact h0⟩, fun _ _ FF5 MM5 => then_n ?_⟩))
    refine wp_cond_true (FF5.ev 0 rfl) ?_
    refine wp_seq (rg_c FF5 MM5 [(0, b_ 1), (0, b_ 0), (1, t_ (sB (sealN K N [] Y)))] 9 [] [] (⟨rfl, ((cn_size _ _).trans hK.1), rfl, ((cn_size _ _).trans hN.1), (callP_of en_rSeal (rseal_any K N ⟨hK.1, hK.2⟩ ⟨hN.1, hN.2⟩ [] Y (lit_lt (by kernel_rfl)) hY (by decide) (by omega)) _), fun _ wd6 FF6 MM6 => then_n ?_⟩))
    have Mz7 : MemS S w0 wd6 ((bn, .cells (cn .u8 N) 44) :: (bk, .cells (cn .u8 K) 41) :: (q, oC #[.bool i, pT t, .slice pv1 ks.length cv1, v2, v3, iN f] 37) :: (t, oC #[sB X, iN u] 32) :: L) ((.slice pv1 ks.length cv1, 88, 64, ks.length, (keyC ks)) :: (v2, 93, 32, is.length, (keyC is)) :: (v3, 101, 46, dn.length, (notC dn)) :: R) := MemS.thw (K := [(bn, .cells (cn .u8 N) 44), (bk, .cells (cn .u8 K) 41), (q, oC #[.bool i, pT t, .slice pv1 ks.length cv1, v2, v3, iN f] 37), (t, oC #[sB X, iN u] 32)]) (O := L) MM6 hFv1
    refine wp_ret ?_
    repeat first | refine then_ret ?_ | refine inb_ret ?_
    exact (ret_fr FF6 0 Try.results19 rfl (by rw [box_no hg, noteD_no hg]; exact ⟨rfl, _, ((Mz7.dropAt 1).dropAt 0)⟩))
  | some own =>
    refine wp_seq (rg_c FF4 MM4 [(1, b_ 1), (0, u_ 1 (.bool true))] 9 [13] [] (⟨rfl, ((cn_size _ _).trans hK.1), ⟨en_bshared, fun w Hw => by have h0 := bshared_any hk hl hK hR w (has_cons (Hw 2 _ rfl) (Has.tl (Has.tl (Has.tl (Has.tl Hw))))) (((MM4.dropAt 3).dropAt 1).dropAt 0).distinct; rw [hg] at h0; exact h0⟩, fun _ _ FF8 MM8 => then_n ?_⟩))
    refine wp_cond_false (FF8.ev 0 rfl) ?_
    refine wp_skip ?_
    refine then_n ?_
    refine wp_seq (rg_c FF8 MM8 [(0, t_ (sB []))] 9 [9] [] (⟨(by kernel_rfl), fun _ _ FF9 MM9 => then_n ?_⟩))
    refine wp_seq ?_
    cases i with
    | false =>
      refine wp_seq (rg_c FF9 MM9 [(3, l_ 2 (.bool false))] 10 [21] [] (⟨rfl, rfl, fun _ _ FF10 MM10 => then_n ?_⟩))
      refine wp_cond_false (FF10.ev 0 rfl) ?_
      refine rg_c FF10 MM10 [(0, b_ 1), (0, b_ 0), (1, t_ (sB (sealN K N [] Y)))] 9 [9] [] (⟨rfl, ((cn_size _ _).trans hK.1), rfl, ((cn_size _ _).trans hN.1), (callP_of en_rSeal (rseal_any K N ⟨hK.1, hK.2⟩ ⟨hN.1, hN.2⟩ [] Y (lit_lt (by kernel_rfl)) hY (by decide) (by omega)) _), fun _ wd11 FF11 MM11 => ?_⟩)
      refine then_n ?_
      have Mz12 : MemS S w0 wd11 ((bn, .cells (cn .u8 N) 44) :: (bk, .cells (cn .u8 K) 41) :: (q, oC #[.bool false, pT t, .slice pv1 ks.length cv1, v2, v3, iN f] 37) :: (t, oC #[sB X, iN u] 32) :: L) ((.slice pv1 ks.length cv1, 88, 64, ks.length, (keyC ks)) :: (v2, 93, 32, is.length, (keyC is)) :: (v3, 101, 46, dn.length, (notC dn)) :: R) := MemS.thw (K := [(bn, .cells (cn .u8 N) 44), (bk, .cells (cn .u8 K) 41), (q, oC #[.bool false, pT t, .slice pv1 ks.length cv1, v2, v3, iN f] 37), (t, oC #[sB X, iN u] 32)]) (O := L) MM11 hFv1
      have Mz13 : MemS S w0 wd11 ((bn, .cells (cn .u8 N) 44) :: (bk, .cells (cn .u8 K) 41) :: (q, oC #[.bool false, pT t, .slice pv1 ks.length cv1, v2, v3, iN f] 37) :: (t, oC #[sB X, iN u] 32) :: L) ((v3, 101, 46, dn.length, (notC dn)) :: (.slice pv1 ks.length cv1, 88, 64, ks.length, (keyC ks)) :: (v2, 93, 32, is.length, (keyC is)) :: R) := Mz12.rowsPerm (List.perm_middle (l₁ := [(Value.slice pv1 ks.length cv1, 88, 64, ks.length, (keyC ks)), (v2, 93, 32, is.length, (keyC is))]))
      refine wp_seq (late_open (N := 15) [14] (by kernel_rfl) (by kernel_rfl) Mz13 fun wq14 MM15 => ?_)
      refine late_take FF11 (i := 0) (oi := (opAt Try.f19 7 0)) (v := (pT q)) (d := 35) MM15.hasL (by kernel_rfl) (by kernel_rfl) (by kernel_rfl) (by kernel_rfl) (by kernel_rfl) (fun _ _ _ _ _ h => h) (by kernel_rfl) (by decide) (by kernel_rfl) (mvV (x := (.tmp 0)) (by kernel_rfl) rfl) fun _ FF16 => ?_
      refine late_take FF16 (i := 1) (oi := (opAt Try.f19 7 1)) (v := (pT q)) (d := 36) MM15.hasL (by kernel_rfl) (by kernel_rfl) (by kernel_rfl) (by kernel_rfl) (by kernel_rfl) (fun _ _ _ _ _ h => h) (by kernel_rfl) (by decide) (by kernel_rfl) (mvV (x := (.tmp 0)) (by kernel_rfl) rfl) fun _ FF17 => ?_
      refine late_take FF17 (i := 2) (oi := (opAt Try.f19 7 2)) (v := (pT q)) (d := 37) MM15.hasL (by kernel_rfl) (by kernel_rfl) (by kernel_rfl) (by kernel_rfl) (by kernel_rfl) (fun _ _ _ _ _ h => h) (by kernel_rfl) (by decide) (by kernel_rfl) (nilV (x := (.tmp 36)) (by kernel_rfl) rfl) fun _ FF18 => ?_
      refine late_take FF18 (i := 3) (oi := (opAt Try.f19 7 3)) (v := (.pointer (some ⟨q, 4, none⟩))) (d := 38) MM15.hasL (by kernel_rfl) (by kernel_rfl) (by kernel_rfl) (by kernel_rfl) (by kernel_rfl) (fun _ _ _ _ _ h => h) (by kernel_rfl) (by decide) (by kernel_rfl) (fldV (x := (.tmp 37)) (t := 37) (k := 4) (cs := []) (by kernel_rfl) rfl (by kernel_rfl)) fun _ FF19 => ?_
      refine late_take FF19 (i := 4) (oi := (opAt Try.f19 7 4)) (v := (v3)) (d := 39) MM15.hasL (by kernel_rfl) (by kernel_rfl) (by kernel_rfl) (by kernel_rfl) (by kernel_rfl) (fun _ _ _ _ _ h => h) (by kernel_rfl) (by decide) (by kernel_rfl) (loadVi (x := (.tmp 38)) (k := 2) (by kernel_rfl) rfl Try.underlying35 rfl rfl rfl) fun _ FF20 => ?_
      refine late_take FF20 (i := 5) (oi := (opAt Try.f19 7 5)) (v := (.agg (cn .u8 K))) (d := 40) MM15.hasL (by kernel_rfl) (by kernel_rfl) (by kernel_rfl) (by kernel_rfl) (by kernel_rfl) (fun _ _ _ _ _ h => h) (by kernel_rfl) (by decide) (by kernel_rfl) (loadRi (x := (.tmp 5)) (k := 1) (m := 32) (by kernel_rfl) rfl Try.underlying41 rfl (by kernel_rfl) rfl ((cn_size _ _).trans hK.1)) fun _ FF21 => ?_
      refine late_take FF21 (i := 6) (oi := (opAt Try.f19 7 6)) (v := (.agg (cn .u8 N))) (d := 41) MM15.hasL (by kernel_rfl) (by kernel_rfl) (by kernel_rfl) (by kernel_rfl) (by kernel_rfl) (fun _ _ _ _ _ h => h) (by kernel_rfl) (by decide) (by kernel_rfl) (loadRi (x := (.tmp 6)) (k := 0) (m := 12) (by kernel_rfl) rfl Try.underlying44 rfl (by kernel_rfl) rfl ((cn_size _ _).trans hN.1)) fun _ FF22 => ?_
      refine late_take FF22 (i := 7) (oi := (opAt Try.f19 7 7)) (v := (sB (sealN K N [] Y))) (d := 42) MM15.hasL (by kernel_rfl) (by kernel_rfl) (by kernel_rfl) (by kernel_rfl) (by kernel_rfl) (fun _ _ _ _ _ h => h) (by kernel_rfl) (by decide) (by kernel_rfl) (mvV (x := (.tmp 9)) (by kernel_rfl) rfl) fun _ FF23 => ?_
      refine late_take FF23 (i := 8) (oi := (opAt Try.f19 7 8)) (v := (sB Y)) (d := 43) MM15.hasL (by kernel_rfl) (by kernel_rfl) (by kernel_rfl) (by kernel_rfl) (by kernel_rfl) (fun _ _ _ _ _ h => h) (by kernel_rfl) (by decide) (by kernel_rfl) (mvV (x := (.tmp 3)) (by kernel_rfl) rfl) fun _ FF24 => ?_
      refine late_one (i := 9) (oi := (opAt Try.f19 7 9)) (by kernel_rfl) (by kernel_rfl) ?_
      refine rp_c 1 FF24 MM15 [(0, f_ (.agg ((cn .u8 K) ++ (cn .u8 N) ++ (#[sB (sealN K N [] Y), sB Y] : Array Value))))] 36 [39, 44] [] (⟨(build_ok (t := 101) (ps := #[(0, (.tmp 40)), (1, (.tmp 41)), (2, (.tmp 42)), (3, (.tmp 43))]) (by kernel_rfl) rfl (built_fits (pl := [(0, 32), (32, 12), (44, 1), (45, 1)]) (tot := 46) (n := 32) (by kernel_rfl) (by kernel_rfl) (ns := [12, 1, 1]) ⟨rfl, (show (cn .u8 K).size = 32 from ((cn_size _ _).trans hK.1)), rfl, (show (cn .u8 N).size = 12 from ((cn_size _ _).trans hN.1)), rfl, rfl, rfl, rfl, rfl⟩ (Array.append_assoc (xs := cn .u8 K ++ cn .u8 N)))), fun _ _ FF25 MM25 => ?_⟩)
      refine wpl_nil (onN_n ⟨fun _ => MM25.hasL, ?_⟩)
      refine late_one (i := 10) (oi := (opAt Try.f19 7 10)) (by kernel_rfl) (by kernel_rfl) ?_
      refine rp_c 1 FF25 MM25 [(0, s_ 0 (.cells ((cn .u8 K) ++ (cn .u8 N) ++ (#[sB (sealN K N [] Y), sB Y] : Array Value)) 101))] 40 [45] [] (⟨(buildS_fits (len := 1) (sz := 46) (n := 46) Try.underlying35 (by kernel_rfl) rfl rfl (ns := []) ⟨rfl, (show ((cn .u8 K) ++ (cn .u8 N) ++ (#[sB (sealN K N [] Y), sB Y] : Array Value)).size = 46 from (by simp [cn_size, hK.1, hN.1])), rfl⟩ rfl), fun bq => fun _ _ FF26 MM26 => ?_⟩)
      refine wpl_nil (onN_n ⟨fun _ => (Has.tl MM26.hasL), ?_⟩)
      refine late_one (i := 11) (oi := (opAt Try.f19 7 11)) (by kernel_rfl) (by kernel_rfl) ?_
      refine st_app [35, 9, 8, 6, 5, 0, 3, 46] FF26 MM26 (d := 46) (s := 39) (x := 45) (Y := (cn .u8 K ++ cn .u8 N ++ #[sB (sealN K N [] Y), sB Y]).toList) (z := .agg ((cn .u8 (List.replicate 32 0)) ++ (cn .u8 (List.replicate 12 0)) ++ (#[sB [], sB []] : Array Value))) (bb := 80) rfl rfl rfl (by rw [noteC_cn]; simp [noteC, bcells, hK.1, hN.1]) (lies_lit (MM26.get 0 rfl)) (by rw [noteC_cn]; exact noteC_one _) (by decide) Try.underlying35 (by kernel_rfl) rfl (by decide) (by simp only [maxLen]; omega) (by omega) rfl rfl (by decide) fun ac28 wd28 rv27 FF28 MM28 => ?_
      obtain ⟨rp, rc, rfl, _⟩ := MM28.rowLen
      refine wpl_nil (onN_n ⟨fun _ => (Has.tl MM28.hasL), ?_⟩)
      refine late_one (i := 12) (oi := (opAt Try.f19 7 12)) (by kernel_rfl) (by kernel_rfl) ?_
      refine rp_c 1 FF28 MM28 [] 48 [] [35] (fun _ _ FF29 MM29 => ?_)
      refine wpl_nil (onN_n ⟨fun _ => (Has.tl MM29.hasL), ?_⟩)
      refine late_take FF29 (i := 13) (oi := (opAt Try.f19 7 13)) (v := (.pointer (some ⟨q, 4, none⟩))) (d := 48) (Has.tl MM29.hasL) (by kernel_rfl) (by kernel_rfl) (by kernel_rfl) (by kernel_rfl) (by kernel_rfl) (fun _ _ _ _ _ h => h) (by kernel_rfl) (by decide) (by kernel_rfl) (fldV (x := (.tmp 47)) (t := 37) (k := 4) (cs := []) (by kernel_rfl) rfl (by kernel_rfl)) fun _ FF30 => ?_
      refine late_one (i := 14) (oi := (opAt Try.f19 7 14)) (by kernel_rfl) (by kernel_rfl) ?_
      refine rp_c 1 FF30 MM29 [(0, s_ 3 (oC #[.bool false, pT t, .slice pv1 ks.length cv1, v2, .slice rp (dn.length + 1) rc, iN f] 37))] 9 [9] [] (⟨rfl, (by simp), (.inl rfl), rfl, fun _ wd31 FF31 MM31 => ?_⟩)
      refine wpl_nil (onN_n ⟨fun h => (h (by decide)).elim, ?_⟩)
      refine late_none (by kernel_rfl) (then_n ?_)
      have Mz32 : MemS S w0 wd31 ((bq, .cells ((cn .u8 K) ++ (cn .u8 N) ++ (#[sB (sealN K N [] Y), sB Y] : Array Value)) 101) :: (bn, .cells (cn .u8 N) 44) :: (bk, .cells (cn .u8 K) 41) :: (q, oC #[.bool false, pT t, .slice pv1 ks.length cv1, v2, .slice rp (dn.length + 1) rc, iN f] 37) :: (t, oC #[sB X, iN u] 32) :: L) ((.slice rp (dn.length + 1) rc, 101, 46, (dn ++ [((K, N, sealN K N [] Y), Y)]).length, (notC (dn ++ [((K, N, sealN K N [] Y), Y)]))) :: (.slice pv1 ks.length cv1, 88, 64, ks.length, (keyC ks)) :: (v2, 93, 32, is.length, (keyC is)) :: R) := by rw [← notC_app, ← noteC_cn, List.length_append]; exact MM31
      have Mz33 : MemS S w0 wd31 ((bq, .cells ((cn .u8 K) ++ (cn .u8 N) ++ (#[sB (sealN K N [] Y), sB Y] : Array Value)) 101) :: (bn, .cells (cn .u8 N) 44) :: (bk, .cells (cn .u8 K) 41) :: (q, oC #[.bool false, pT t, .slice pv1 ks.length cv1, v2, .slice rp (dn.length + 1) rc, iN f] 37) :: (t, oC #[sB X, iN u] 32) :: L) ((.slice pv1 ks.length cv1, 88, 64, ks.length, (keyC ks)) :: (v2, 93, 32, is.length, (keyC is)) :: (.slice rp (dn.length + 1) rc, 101, 46, (dn ++ [((K, N, sealN K N [] Y), Y)]).length, (notC (dn ++ [((K, N, sealN K N [] Y), Y)]))) :: R) := Mz32.rowsPerm (List.perm_middle (l₁ := [(Value.slice pv1 ks.length cv1, 88, 64, ks.length, (keyC ks)), (v2, 93, 32, is.length, (keyC is))])).symm
      refine wp_seq (rg_c FF31 Mz33 [] 9 [9] [] (fun _ _ FF34 MM34 => then_n ?_))
      refine wp_ret ?_
      repeat first | refine then_ret ?_ | refine inb_ret ?_
      exact (ret_fr FF34 0 Try.results19 rfl (by rw [noteD_yes hg, box_real hg]; exact ⟨rfl, _, (((MM34.dropAt 2).dropAt 1).dropAt 0)⟩))
    | true =>
      refine wp_seq (rg_c FF9 MM9 [(3, l_ 2 (.bool true))] 10 [21] [] (⟨rfl, rfl, fun _ _ FF35 MM35 => then_n ?_⟩))
      refine wp_cond_true (FF35.ev 0 rfl) ?_
      refine rg_draw FF35 MM35 [.inl (pT q), .inl (.agg (cn .u8 K)), .inl (.agg (cn .u8 (ownN K ks))), .inl (.agg (cn .u8 N)), .inl (sB Y), .inl (iN Y.length), .inr (.cells (cn .u8 (List.replicate Y.length 0)) 5, fun b => .slice (some ⟨b, 0, none⟩) Y.length Y.length), .inl (sB (List.replicate Y.length 0)), .inl (sB (sealN (ownN K ks) N [] (List.replicate Y.length 0))), .inl (sB (sealN (ownN K ks) N [] (List.replicate Y.length 0)))] [] [o_, b_ 1, u_ 1 (.agg (cn .u8 (ownN K ks))), b_ 0, o_, t_ (iN Y.length), n_ (.slice none Y.length Y.length) (.cells (cn .u8 (List.replicate Y.length 0)) 5), l_ 0 (sB (List.replicate Y.length 0)), t_ (sB (sealN (ownN K ks) N [] (List.replicate Y.length 0))), o_] [] [9, 8, 6, 5, 0, 3] (fun nb => [bk = bk, (cn .u8 K).size = 32, CallP Try.prog 27 [pT q, .agg (cn .u8 K)] ((bn, .cells (cn .u8 N) 44) :: (bk, .cells (cn .u8 K) 41) :: (q, oC #[.bool true, pT t, .slice pv1 ks.length cv1, v2, v3, iN f] 37) :: (t, oC #[sB X, iN u] 32) :: O1) (.agg (cn .u8 (ownN K ks))), bn = bn, (cn .u8 N).size = 12, iN ((bs Y).size) = iN Y.length, RunN Try.prog [(27, iN Y.length), (27, iN Y.length), (21, .bool true), (8, sB []), (6, pT bn), (5, pT bk), (0, pT q), (3, sB Y)] ((bn, .cells (cn .u8 N) 44) :: (bk, .cells (cn .u8 K) 41) :: (q, oC #[.bool true, pT t, .slice pv1 ks.length cv1, v2, v3, iN f] 37) :: (t, oC #[sB X, iN u] 32) :: O1) (opAt Try.f19 5 6) (mkOf (.slice none Y.length Y.length)) (.cells (cn .u8 (List.replicate Y.length 0)) 5), (nb 6) = (nb 6), StrAt (cn .u8 (List.replicate Y.length 0)) 0 Y.length (bs (List.replicate Y.length 0)), CallP Try.prog 39 [.agg (cn .u8 (ownN K ks)), .agg (cn .u8 N), sB [], sB (List.replicate Y.length 0)] [] (sB (sealN (ownN K ks) N [] (List.replicate Y.length 0)))]) (fun nb Kt => Kt [(9, sB (sealN (ownN K ks) N [] (List.replicate Y.length 0))), (8, sB []), (6, pT bn), (5, pT bk), (0, pT q), (3, sB Y)] ((bn, .cells (cn .u8 N) 44) :: (bk, .cells (cn .u8 K) 41) :: (q, oC #[.bool true, pT t, .slice pv1 ks.length cv1, v2, v3, iN f] 37) :: (t, oC #[sB X, iN u] 32) :: O1)) (by kernel_rfl) (by kernel_rfl) (by kernel_rfl) (fun _ => by kernel_rfl) (fun _ _ => by kernel_rfl) trivial (fun nb => ⟨rfl, ((cn_size _ _).trans hK.1), ⟨en_bKey, fun w Hw => bKey_any hk hl hK hR w (has_cons (Hw 2 _ rfl) (Has.tl (Has.tl (Has.tl (Has.tl Hw))))) (((MM35.dropAt 3).dropAt 1).dropAt 0).distinct⟩, rfl, ((cn_size _ _).trans hN.1), (vI (bs_size _)), (make_ok (t := 73) (e := 5) (p := (.tmp 27)) (q := (.tmp 27)) (by kernel_rfl) rfl rfl Try.underlying73 (by kernel_rfl) (by omega)), rfl, (str_all (List.length_replicate ..) (rep0_lt)), (callP_of en_rSeal (rseal_any (ownN K ks) N ⟨(own_ok hk hK).1, (own_ok hk hK).2⟩ ⟨hN.1, hN.2⟩ [] (List.replicate Y.length 0) (lit_lt (by kernel_rfl)) (rep0_lt) (by decide) (by rw [List.length_replicate]; omega)) _), trivial⟩) (fun nb => fun _ wd36 FF36 MM36 => ?_)
      refine then_n ?_
      have Mz37 : MemS S w0 wd36 ((bn, .cells (cn .u8 N) 44) :: (bk, .cells (cn .u8 K) 41) :: (q, oC #[.bool true, pT t, .slice pv1 ks.length cv1, v2, v3, iN f] 37) :: (t, oC #[sB X, iN u] 32) :: L) ((.slice pv1 ks.length cv1, 88, 64, ks.length, (keyC ks)) :: (v2, 93, 32, is.length, (keyC is)) :: (v3, 101, 46, dn.length, (notC dn)) :: R) := MemS.thw (K := [(bn, .cells (cn .u8 N) 44), (bk, .cells (cn .u8 K) 41), (q, oC #[.bool true, pT t, .slice pv1 ks.length cv1, v2, v3, iN f] 37), (t, oC #[sB X, iN u] 32)]) (O := L) MM36 hFv1
      have Mz38 : MemS S w0 wd36 ((bn, .cells (cn .u8 N) 44) :: (bk, .cells (cn .u8 K) 41) :: (q, oC #[.bool true, pT t, .slice pv1 ks.length cv1, v2, v3, iN f] 37) :: (t, oC #[sB X, iN u] 32) :: L) ((v3, 101, 46, dn.length, (notC dn)) :: (.slice pv1 ks.length cv1, 88, 64, ks.length, (keyC ks)) :: (v2, 93, 32, is.length, (keyC is)) :: R) := Mz37.rowsPerm (List.perm_middle (l₁ := [(Value.slice pv1 ks.length cv1, 88, 64, ks.length, (keyC ks)), (v2, 93, 32, is.length, (keyC is))]))
      refine wp_seq (late_open (N := 15) [14] (by kernel_rfl) (by kernel_rfl) Mz38 fun wq39 MM40 => ?_)
      refine late_take FF36 (i := 0) (oi := (opAt Try.f19 7 0)) (v := (pT q)) (d := 35) MM40.hasL (by kernel_rfl) (by kernel_rfl) (by kernel_rfl) (by kernel_rfl) (by kernel_rfl) (fun _ _ _ _ _ h => h) (by kernel_rfl) (by decide) (by kernel_rfl) (mvV (x := (.tmp 0)) (by kernel_rfl) rfl) fun _ FF41 => ?_
      refine late_take FF41 (i := 1) (oi := (opAt Try.f19 7 1)) (v := (pT q)) (d := 36) MM40.hasL (by kernel_rfl) (by kernel_rfl) (by kernel_rfl) (by kernel_rfl) (by kernel_rfl) (fun _ _ _ _ _ h => h) (by kernel_rfl) (by decide) (by kernel_rfl) (mvV (x := (.tmp 0)) (by kernel_rfl) rfl) fun _ FF42 => ?_
      refine late_take FF42 (i := 2) (oi := (opAt Try.f19 7 2)) (v := (pT q)) (d := 37) MM40.hasL (by kernel_rfl) (by kernel_rfl) (by kernel_rfl) (by kernel_rfl) (by kernel_rfl) (fun _ _ _ _ _ h => h) (by kernel_rfl) (by decide) (by kernel_rfl) (nilV (x := (.tmp 36)) (by kernel_rfl) rfl) fun _ FF43 => ?_
      refine late_take FF43 (i := 3) (oi := (opAt Try.f19 7 3)) (v := (.pointer (some ⟨q, 4, none⟩))) (d := 38) MM40.hasL (by kernel_rfl) (by kernel_rfl) (by kernel_rfl) (by kernel_rfl) (by kernel_rfl) (fun _ _ _ _ _ h => h) (by kernel_rfl) (by decide) (by kernel_rfl) (fldV (x := (.tmp 37)) (t := 37) (k := 4) (cs := []) (by kernel_rfl) rfl (by kernel_rfl)) fun _ FF44 => ?_
      refine late_take FF44 (i := 4) (oi := (opAt Try.f19 7 4)) (v := (v3)) (d := 39) MM40.hasL (by kernel_rfl) (by kernel_rfl) (by kernel_rfl) (by kernel_rfl) (by kernel_rfl) (fun _ _ _ _ _ h => h) (by kernel_rfl) (by decide) (by kernel_rfl) (loadVi (x := (.tmp 38)) (k := 2) (by kernel_rfl) rfl Try.underlying35 rfl rfl rfl) fun _ FF45 => ?_
      refine late_take FF45 (i := 5) (oi := (opAt Try.f19 7 5)) (v := (.agg (cn .u8 K))) (d := 40) MM40.hasL (by kernel_rfl) (by kernel_rfl) (by kernel_rfl) (by kernel_rfl) (by kernel_rfl) (fun _ _ _ _ _ h => h) (by kernel_rfl) (by decide) (by kernel_rfl) (loadRi (x := (.tmp 5)) (k := 1) (m := 32) (by kernel_rfl) rfl Try.underlying41 rfl (by kernel_rfl) rfl ((cn_size _ _).trans hK.1)) fun _ FF46 => ?_
      refine late_take FF46 (i := 6) (oi := (opAt Try.f19 7 6)) (v := (.agg (cn .u8 N))) (d := 41) MM40.hasL (by kernel_rfl) (by kernel_rfl) (by kernel_rfl) (by kernel_rfl) (by kernel_rfl) (fun _ _ _ _ _ h => h) (by kernel_rfl) (by decide) (by kernel_rfl) (loadRi (x := (.tmp 6)) (k := 0) (m := 12) (by kernel_rfl) rfl Try.underlying44 rfl (by kernel_rfl) rfl ((cn_size _ _).trans hN.1)) fun _ FF47 => ?_
      refine late_take FF47 (i := 7) (oi := (opAt Try.f19 7 7)) (v := (sB (sealN (ownN K ks) N [] (List.replicate Y.length 0)))) (d := 42) MM40.hasL (by kernel_rfl) (by kernel_rfl) (by kernel_rfl) (by kernel_rfl) (by kernel_rfl) (fun _ _ _ _ _ h => h) (by kernel_rfl) (by decide) (by kernel_rfl) (mvV (x := (.tmp 9)) (by kernel_rfl) rfl) fun _ FF48 => ?_
      refine late_take FF48 (i := 8) (oi := (opAt Try.f19 7 8)) (v := (sB Y)) (d := 43) MM40.hasL (by kernel_rfl) (by kernel_rfl) (by kernel_rfl) (by kernel_rfl) (by kernel_rfl) (fun _ _ _ _ _ h => h) (by kernel_rfl) (by decide) (by kernel_rfl) (mvV (x := (.tmp 3)) (by kernel_rfl) rfl) fun _ FF49 => ?_
      refine late_one (i := 9) (oi := (opAt Try.f19 7 9)) (by kernel_rfl) (by kernel_rfl) ?_
      refine rp_c 1 FF49 MM40 [(0, f_ (.agg ((cn .u8 K) ++ (cn .u8 N) ++ (#[sB (sealN (ownN K ks) N [] (List.replicate Y.length 0)), sB Y] : Array Value))))] 36 [39, 44] [] (⟨(build_ok (t := 101) (ps := #[(0, (.tmp 40)), (1, (.tmp 41)), (2, (.tmp 42)), (3, (.tmp 43))]) (by kernel_rfl) rfl (built_fits (pl := [(0, 32), (32, 12), (44, 1), (45, 1)]) (tot := 46) (n := 32) (by kernel_rfl) (by kernel_rfl) (ns := [12, 1, 1]) ⟨rfl, (show (cn .u8 K).size = 32 from ((cn_size _ _).trans hK.1)), rfl, (show (cn .u8 N).size = 12 from ((cn_size _ _).trans hN.1)), rfl, rfl, rfl, rfl, rfl⟩ (Array.append_assoc (xs := cn .u8 K ++ cn .u8 N)))), fun _ _ FF50 MM50 => ?_⟩)
      refine wpl_nil (onN_n ⟨fun _ => MM50.hasL, ?_⟩)
      refine late_one (i := 10) (oi := (opAt Try.f19 7 10)) (by kernel_rfl) (by kernel_rfl) ?_
      refine rp_c 1 FF50 MM50 [(0, s_ 0 (.cells ((cn .u8 K) ++ (cn .u8 N) ++ (#[sB (sealN (ownN K ks) N [] (List.replicate Y.length 0)), sB Y] : Array Value)) 101))] 40 [45] [] (⟨(buildS_fits (len := 1) (sz := 46) (n := 46) Try.underlying35 (by kernel_rfl) rfl rfl (ns := []) ⟨rfl, (show ((cn .u8 K) ++ (cn .u8 N) ++ (#[sB (sealN (ownN K ks) N [] (List.replicate Y.length 0)), sB Y] : Array Value)).size = 46 from (by simp [cn_size, hK.1, hN.1])), rfl⟩ rfl), fun bq => fun _ _ FF51 MM51 => ?_⟩)
      refine wpl_nil (onN_n ⟨fun _ => (Has.tl MM51.hasL), ?_⟩)
      refine late_one (i := 11) (oi := (opAt Try.f19 7 11)) (by kernel_rfl) (by kernel_rfl) ?_
      refine st_app [35, 9, 8, 6, 5, 0, 3, 46] FF51 MM51 (d := 46) (s := 39) (x := 45) (Y := (cn .u8 K ++ cn .u8 N ++ #[sB (sealN (ownN K ks) N [] (List.replicate Y.length 0)), sB Y]).toList) (z := .agg ((cn .u8 (List.replicate 32 0)) ++ (cn .u8 (List.replicate 12 0)) ++ (#[sB [], sB []] : Array Value))) (bb := 80) rfl rfl rfl (by rw [noteC_cn]; simp [noteC, bcells, hK.1, hN.1]) (lies_lit (MM51.get 0 rfl)) (by rw [noteC_cn]; exact noteC_one _) (by decide) Try.underlying35 (by kernel_rfl) rfl (by decide) (by simp only [maxLen]; omega) (by omega) rfl rfl (by decide) fun ac53 wd53 rv52 FF53 MM53 => ?_
      obtain ⟨rp, rc, rfl, _⟩ := MM53.rowLen
      refine wpl_nil (onN_n ⟨fun _ => (Has.tl MM53.hasL), ?_⟩)
      refine late_one (i := 12) (oi := (opAt Try.f19 7 12)) (by kernel_rfl) (by kernel_rfl) ?_
      refine rp_c 1 FF53 MM53 [] 48 [] [35] (fun _ _ FF54 MM54 => ?_)
      refine wpl_nil (onN_n ⟨fun _ => (Has.tl MM54.hasL), ?_⟩)
      refine late_take FF54 (i := 13) (oi := (opAt Try.f19 7 13)) (v := (.pointer (some ⟨q, 4, none⟩))) (d := 48) (Has.tl MM54.hasL) (by kernel_rfl) (by kernel_rfl) (by kernel_rfl) (by kernel_rfl) (by kernel_rfl) (fun _ _ _ _ _ h => h) (by kernel_rfl) (by decide) (by kernel_rfl) (fldV (x := (.tmp 47)) (t := 37) (k := 4) (cs := []) (by kernel_rfl) rfl (by kernel_rfl)) fun _ FF55 => ?_
      refine late_one (i := 14) (oi := (opAt Try.f19 7 14)) (by kernel_rfl) (by kernel_rfl) ?_
      refine rp_c 1 FF55 MM54 [(0, s_ 3 (oC #[.bool true, pT t, .slice pv1 ks.length cv1, v2, .slice rp (dn.length + 1) rc, iN f] 37))] 9 [9] [] (⟨rfl, (by simp), (.inl rfl), rfl, fun _ wd56 FF56 MM56 => ?_⟩)
      refine wpl_nil (onN_n ⟨fun h => (h (by decide)).elim, ?_⟩)
      refine late_none (by kernel_rfl) (then_n ?_)
      have Mz57 : MemS S w0 wd56 ((bq, .cells ((cn .u8 K) ++ (cn .u8 N) ++ (#[sB (sealN (ownN K ks) N [] (List.replicate Y.length 0)), sB Y] : Array Value)) 101) :: (bn, .cells (cn .u8 N) 44) :: (bk, .cells (cn .u8 K) 41) :: (q, oC #[.bool true, pT t, .slice pv1 ks.length cv1, v2, .slice rp (dn.length + 1) rc, iN f] 37) :: (t, oC #[sB X, iN u] 32) :: L) ((.slice rp (dn.length + 1) rc, 101, 46, (dn ++ [((K, N, sealN (ownN K ks) N [] (List.replicate Y.length 0)), Y)]).length, (notC (dn ++ [((K, N, sealN (ownN K ks) N [] (List.replicate Y.length 0)), Y)]))) :: (.slice pv1 ks.length cv1, 88, 64, ks.length, (keyC ks)) :: (v2, 93, 32, is.length, (keyC is)) :: R) := by rw [← notC_app, ← noteC_cn, List.length_append]; exact MM56
      have Mz58 : MemS S w0 wd56 ((bq, .cells ((cn .u8 K) ++ (cn .u8 N) ++ (#[sB (sealN (ownN K ks) N [] (List.replicate Y.length 0)), sB Y] : Array Value)) 101) :: (bn, .cells (cn .u8 N) 44) :: (bk, .cells (cn .u8 K) 41) :: (q, oC #[.bool true, pT t, .slice pv1 ks.length cv1, v2, .slice rp (dn.length + 1) rc, iN f] 37) :: (t, oC #[sB X, iN u] 32) :: L) ((.slice pv1 ks.length cv1, 88, 64, ks.length, (keyC ks)) :: (v2, 93, 32, is.length, (keyC is)) :: (.slice rp (dn.length + 1) rc, 101, 46, (dn ++ [((K, N, sealN (ownN K ks) N [] (List.replicate Y.length 0)), Y)]).length, (notC (dn ++ [((K, N, sealN (ownN K ks) N [] (List.replicate Y.length 0)), Y)]))) :: R) := Mz57.rowsPerm (List.perm_middle (l₁ := [(Value.slice pv1 ks.length cv1, 88, 64, ks.length, (keyC ks)), (v2, 93, 32, is.length, (keyC is))])).symm
      refine wp_seq (rg_c FF56 Mz58 [] 9 [9] [] (fun _ _ FF59 MM59 => then_n ?_))
      refine wp_ret ?_
      repeat first | refine then_ret ?_ | refine inb_ret ?_
      exact (ret_fr FF59 0 Try.results19 rfl (by rw [noteD_yes hg, box_ideal hg]; exact ⟨rfl, _, (((MM59.dropAt 2).dropAt 1).dropAt 0)⟩))
end Go.Proofs.Ytniplfjnpjihoaa
namespace Go.Proofs.Ytniplfjnpjihoaa
open Go.RowKit
theorem bnoted_any {O : Blks} {q : Nat} {i : Bool} {t v1 v2 : Value} {f : Nat} {p : Option Addr} {c : Nat} {K N B : List Nat} {dn : Notes} (hk : OkN dn) (hl : dn.length ≤ 1000000) (hK : BytesK 32 K) (hN : BytesK 12 N) (hB : ∀ i, B.getD i 0 < 256) (hR : RowO O p (dn.length * 46) (fun j => (notC dn).getD j undef)) (w0 : World) (H : Has w0 ((q, oC #[.bool i, t, v1, v2, .slice p dn.length c, iN f] 37) :: O)) (hD : Distinct ((q, oC #[.bool i, t, v1, v2, .slice p dn.length c, iN f] 37) :: O)) :
    Calls Try.prog 41 #[pT q, .agg (cn .u8 K), .agg (cn .u8 N), sB B] w0 fun e w' => e = .returned (.int .i64 (notZ (K, N, B) dn)) ∧ Below w0.heap.size w0 w' := by
  unfold notZ
  cases hg : rget (K, N, B) dn with
  | none => exact bnoted_no hg hk hl hK hN hB hR w0 H hD
  | some v => exact bnoted_yes hg hk hl hK hN hB hR w0 H hD
set_option maxRecDepth 100000 in
theorem bopen_any {S : Nat → Prop} {w0 : World} {L : Blks} {R : List Row} {q t : Nat} {i : Bool} {v1 v2 v3 : Value} {f u : Nat} {X : List Nat} {ks is : Pairs} {dn : Notes} {K N Z : List Nat} (hk : OkP 32 ks) (hl : ks.length ≤ 1000000) (hd : dn.length ≤ 1000000) (hdn : OkN dn) (hf : f < 4611686018427387904) (hK : BytesK 32 K) (hN : BytesK 12 N) (hZ : ∀ i, Z.getD i 0 < 256) (hZl : Z.length ≤ 300) (w : World) (M : MemS S w0 w ((q, QB i (pT t) v1 v2 v3 f) :: (t, RB X u) :: L) ((v1, 88, 64, ks.length, (keyC ks)) :: (v2, 93, 32, is.length, (keyC is)) :: (v3, 101, 46, dn.length, (notC dn)) :: R)) :
    Calls Try.prog 22 #[pT q, .agg (cn .u8 K), .agg (cn .u8 N), sB Z] w fun e w' => e = .returned (.tuple #[sB ((openN i K N ks (rget (K, N, Z) dn) Z).getD []), .bool (openN i K N ks (rget (K, N, Z) dn) Z).isSome]) ∧ ∃ v v', MemS S w0 w' ((q, QB i (pT t) v v2 v' (f + openF i K N ks (rget (K, N, Z) dn) Z)) :: (t, RB X u) :: L) ((v, 88, 64, ks.length, (keyC ks)) :: (v2, 93, 32, is.length, (keyC is)) :: (v', 101, 46, dn.length, (notC dn)) :: R) := by
  refine enter_fr Try.func22 rfl Try.ntmps22 (by simp) fun ac (FF : Fr 63 ac [(0, pT q), (1, .agg (cn .u8 K)), (2, .agg (cn .u8 N)), (3, sB Z)]) => ?_
  obtain ⟨O1, pv1, cv1, Mf2, hFv1, rfl, hR⟩ := MemS.frz (K := [(q, oC #[.bool i, pT t, v1, v2, v3, iN f] 37), (t, oC #[sB X, iN u] 32)]) (O := L) M
  have Mz3 : MemS S w0 w ((q, oC #[.bool i, pT t, .slice pv1 ks.length cv1, v2, v3, iN f] 37) :: (t, oC #[sB X, iN u] 32) :: O1) ((v2, 93, 32, is.length, (keyC is)) :: (v3, 101, 46, dn.length, (notC dn)) :: R) := Mf2
  have Mz4 : MemS S w0 w ((q, oC #[.bool i, pT t, .slice pv1 ks.length cv1, v2, v3, iN f] 37) :: (t, oC #[sB X, iN u] 32) :: O1) ((v3, 101, 46, dn.length, (notC dn)) :: (v2, 93, 32, is.length, (keyC is)) :: R) := Mz3.rowsPerm (List.perm_middle (l₁ := [(v2, 93, 32, is.length, (keyC is))]))
  obtain ⟨O5, pv3, cv3, Mf6, hFv3, rfl, hR3⟩ := MemS.frz (K := [(q, oC #[.bool i, pT t, .slice pv1 ks.length cv1, v2, v3, iN f] 37), (t, oC #[sB X, iN u] 32)]) (O := O1) Mz4
  have hm7 := hR.mono hFv3.mono
  have Mz8 : MemS S w0 w ((q, oC #[.bool i, pT t, .slice pv1 ks.length cv1, v2, .slice pv3 dn.length cv3, iN f] 37) :: (t, oC #[sB X, iN u] 32) :: O5) ((v2, 93, 32, is.length, (keyC is)) :: R) := Mf6
  refine wp_seq (rg_c FF Mz8 [(0, s_ 0 (.cells (cn .u8 K) 41)), (0, s_ 0 (.cells (cn .u8 N) 44)), (0, t_ (sB []))] 9 [9] [1, 2] (⟨(by kernel_rfl), fun bk => ⟨(by kernel_rfl), fun bn => ⟨(by kernel_rfl), fun _ _ FF9 MM9 => then_n ?_⟩⟩⟩))
  cases hg : mget K ks with
  | none =>
    refine wp_seq (rg_c FF9 MM9 [(1, b_ 1), (0, u_ 1 (.bool false))] 11 [] [] (⟨rfl, ((cn_size _ _).trans hK.1), ⟨en_bshared, fun w Hw => by have h0 := bshared_any hk hl hK hm7 w (has_cons (Hw 2 _ rfl) (Has.tl (Has.tl (Has.tl (Has.tl Hw))))) (((MM9.dropAt 3).dropAt 1).dropAt 0).distinct; rw [hg] at h0; exact h0⟩, fun _ _ FF10 MM10 => then_n ?_⟩))
    refine wp_seq (rg_c FF10 MM10 [(1, b_ 1), (0, b_ 0), (1, u_ 1 (.int .i64 (notZ (K, N, Z) dn : Int)))] 12 [] [] (⟨rfl, ((cn_size _ _).trans hK.1), rfl, ((cn_size _ _).trans hN.1), ⟨en_bnoted, fun w Hw => bnoted_any hdn hd hK hN hZ hR3 w (has_cons (Hw 2 _ rfl) (Has.tl (Has.tl (Has.tl (Has.tl Hw))))) (((MM10.dropAt 3).dropAt 1).dropAt 0).distinct⟩, fun _ _ FF11 MM11 => then_n ?_⟩))
    refine wp_seq ?_
    refine wp_seq (rg_c FF11 MM11 [] 12 [28] [] (fun _ _ FF12 MM12 => then_n ?_))
    refine wp_cond_false (FF12.ev 0 rfl) ?_
    refine wp_skip ?_
    refine then_n ?_
    by_cases ho : opensN K N [] Z
    · skip
      refine wp_seq (rg_c FF12 MM12 [(0, b_ 1), (0, b_ 0), (1, t_ (.tuple #[sB (plainN K N Z), .bool true]))] 14 [] [] (⟨rfl, ((cn_size _ _).trans hK.1), rfl, ((cn_size _ _).trans hN.1), (callP_of en_rOpen (ropen_yes K N ⟨hK.1, hK.2⟩ ⟨hN.1, hN.2⟩ [] Z (lit_lt (by kernel_rfl)) hZ (by decide) (by omega) ho.1 ho) _), fun _ _ FF13 MM13 => then_n ?_⟩))
      refine wp_seq ?_
      refine wp_seq (rg_c FF13 MM13 [] 14 [53] [] (fun _ _ FF14 MM14 => then_n ?_))
      refine wp_cond_false (FF14.ev 0 rfl) ?_
      refine wp_skip ?_
      refine then_n ?_
      refine wp_seq (rg_c FF14 MM14 [] 12 [13] [] (fun _ wd15 FF15 MM15 => then_n ?_))
      have Mz16 : MemS S w0 wd15 ((bn, .cells (cn .u8 N) 44) :: (bk, .cells (cn .u8 K) 41) :: (q, oC #[.bool i, pT t, .slice pv1 ks.length cv1, v2, .slice pv3 dn.length cv3, iN f] 37) :: (t, oC #[sB X, iN u] 32) :: O1) ((.slice pv3 dn.length cv3, 101, 46, dn.length, (notC dn)) :: (v2, 93, 32, is.length, (keyC is)) :: R) := MemS.thw (K := [(bn, .cells (cn .u8 N) 44), (bk, .cells (cn .u8 K) 41), (q, oC #[.bool i, pT t, .slice pv1 ks.length cv1, v2, .slice pv3 dn.length cv3, iN f] 37), (t, oC #[sB X, iN u] 32)]) (O := O1) MM15 hFv3
      have Mz17 : MemS S w0 wd15 ((bn, .cells (cn .u8 N) 44) :: (bk, .cells (cn .u8 K) 41) :: (q, oC #[.bool i, pT t, .slice pv1 ks.length cv1, v2, .slice pv3 dn.length cv3, iN f] 37) :: (t, oC #[sB X, iN u] 32) :: L) ((.slice pv1 ks.length cv1, 88, 64, ks.length, (keyC ks)) :: (.slice pv3 dn.length cv3, 101, 46, dn.length, (notC dn)) :: (v2, 93, 32, is.length, (keyC is)) :: R) := MemS.thw (K := [(bn, .cells (cn .u8 N) 44), (bk, .cells (cn .u8 K) 41), (q, oC #[.bool i, pT t, .slice pv1 ks.length cv1, v2, .slice pv3 dn.length cv3, iN f] 37), (t, oC #[sB X, iN u] 32)]) (O := L) Mz16 hFv1
      have Mz18 : MemS S w0 wd15 ((bn, .cells (cn .u8 N) 44) :: (bk, .cells (cn .u8 K) 41) :: (q, oC #[.bool i, pT t, .slice pv1 ks.length cv1, v2, .slice pv3 dn.length cv3, iN f] 37) :: (t, oC #[sB X, iN u] 32) :: L) ((.slice pv1 ks.length cv1, 88, 64, ks.length, (keyC ks)) :: (v2, 93, 32, is.length, (keyC is)) :: (.slice pv3 dn.length cv3, 101, 46, dn.length, (notC dn)) :: R) := Mz17.rowsPerm ((List.Perm.swap _ _ _).cons _)
      refine wp_ret ?_
      repeat first | refine then_ret ?_ | refine inb_ret ?_
      exact (ret_tup2 FF15 1 0 Try.results22 rfl rfl (by rw [(opn_no hg).1, (opn_no hg).2, if_pos ho]; exact ⟨rfl, _, _, ((Mz18.dropAt 1).dropAt 0)⟩))
    · skip
      refine wp_seq (rg_c FF12 MM12 [(0, b_ 1), (0, b_ 0), (1, t_ (.tuple #[sB [], .bool false]))] 14 [] [] (⟨rfl, ((cn_size _ _).trans hK.1), rfl, ((cn_size _ _).trans hN.1), (callP_of en_rOpen (ropen_no K N ⟨hK.1, hK.2⟩ ⟨hN.1, hN.2⟩ [] Z (lit_lt (by kernel_rfl)) hZ (by decide) (by omega) ho) _), fun _ _ FF19 MM19 => then_n ?_⟩))
      refine wp_seq ?_
      refine wp_seq (rg_c FF19 MM19 [] 14 [53] [] (fun _ _ FF20 MM20 => then_n ?_))
      refine wp_cond_false (FF20.ev 0 rfl) ?_
      refine wp_skip ?_
      refine then_n ?_
      refine wp_seq (rg_c FF20 MM20 [] 12 [13] [] (fun _ wd21 FF21 MM21 => then_n ?_))
      have Mz22 : MemS S w0 wd21 ((bn, .cells (cn .u8 N) 44) :: (bk, .cells (cn .u8 K) 41) :: (q, oC #[.bool i, pT t, .slice pv1 ks.length cv1, v2, .slice pv3 dn.length cv3, iN f] 37) :: (t, oC #[sB X, iN u] 32) :: O1) ((.slice pv3 dn.length cv3, 101, 46, dn.length, (notC dn)) :: (v2, 93, 32, is.length, (keyC is)) :: R) := MemS.thw (K := [(bn, .cells (cn .u8 N) 44), (bk, .cells (cn .u8 K) 41), (q, oC #[.bool i, pT t, .slice pv1 ks.length cv1, v2, .slice pv3 dn.length cv3, iN f] 37), (t, oC #[sB X, iN u] 32)]) (O := O1) MM21 hFv3
      have Mz23 : MemS S w0 wd21 ((bn, .cells (cn .u8 N) 44) :: (bk, .cells (cn .u8 K) 41) :: (q, oC #[.bool i, pT t, .slice pv1 ks.length cv1, v2, .slice pv3 dn.length cv3, iN f] 37) :: (t, oC #[sB X, iN u] 32) :: L) ((.slice pv1 ks.length cv1, 88, 64, ks.length, (keyC ks)) :: (.slice pv3 dn.length cv3, 101, 46, dn.length, (notC dn)) :: (v2, 93, 32, is.length, (keyC is)) :: R) := MemS.thw (K := [(bn, .cells (cn .u8 N) 44), (bk, .cells (cn .u8 K) 41), (q, oC #[.bool i, pT t, .slice pv1 ks.length cv1, v2, .slice pv3 dn.length cv3, iN f] 37), (t, oC #[sB X, iN u] 32)]) (O := L) Mz22 hFv1
      have Mz24 : MemS S w0 wd21 ((bn, .cells (cn .u8 N) 44) :: (bk, .cells (cn .u8 K) 41) :: (q, oC #[.bool i, pT t, .slice pv1 ks.length cv1, v2, .slice pv3 dn.length cv3, iN f] 37) :: (t, oC #[sB X, iN u] 32) :: L) ((.slice pv1 ks.length cv1, 88, 64, ks.length, (keyC ks)) :: (v2, 93, 32, is.length, (keyC is)) :: (.slice pv3 dn.length cv3, 101, 46, dn.length, (notC dn)) :: R) := Mz23.rowsPerm ((List.Perm.swap _ _ _).cons _)
      refine wp_ret ?_
      repeat first | refine then_ret ?_ | refine inb_ret ?_
      exact (ret_tup2 FF21 1 0 Try.results22 rfl rfl (by rw [(opn_no hg).1, (opn_no hg).2, if_neg ho]; exact ⟨rfl, _, _, ((Mz24.dropAt 1).dropAt 0)⟩))
  | some own =>
    refine wp_seq (rg_c FF9 MM9 [(1, b_ 1), (0, u_ 1 (.bool true))] 11 [] [] (⟨rfl, ((cn_size _ _).trans hK.1), ⟨en_bshared, fun w Hw => by have h0 := bshared_any hk hl hK hm7 w (has_cons (Hw 2 _ rfl) (Has.tl (Has.tl (Has.tl (Has.tl Hw))))) (((MM9.dropAt 3).dropAt 1).dropAt 0).distinct; rw [hg] at h0; exact h0⟩, fun _ _ FF25 MM25 => then_n ?_⟩))
    refine wp_seq (rg_c FF25 MM25 [(1, b_ 1), (0, b_ 0), (1, u_ 1 (.int .i64 (notZ (K, N, Z) dn : Int)))] 12 [] [] (⟨rfl, ((cn_size _ _).trans hK.1), rfl, ((cn_size _ _).trans hN.1), ⟨en_bnoted, fun w Hw => bnoted_any hdn hd hK hN hZ hR3 w (has_cons (Hw 2 _ rfl) (Has.tl (Has.tl (Has.tl (Has.tl Hw))))) (((MM25.dropAt 3).dropAt 1).dropAt 0).distinct⟩, fun _ _ FF26 MM26 => then_n ?_⟩))
    refine wp_seq ?_
    cases i with
    | false =>
      refine wp_seq (rg_c FF26 MM26 [(5, l_ 2 (.bool false))] 12 [28] [] (⟨rfl, rfl, fun _ _ FF27 MM27 => then_n ?_⟩))
      refine wp_cond_false (FF27.ev 0 rfl) ?_
      refine wp_skip ?_
      refine then_n ?_
      by_cases ho : opensN K N [] Z
      · skip
        refine wp_seq (rg_c FF27 MM27 [(0, b_ 1), (0, b_ 0), (1, t_ (.tuple #[sB (plainN K N Z), .bool true]))] 14 [] [] (⟨rfl, ((cn_size _ _).trans hK.1), rfl, ((cn_size _ _).trans hN.1), (callP_of en_rOpen (ropen_yes K N ⟨hK.1, hK.2⟩ ⟨hN.1, hN.2⟩ [] Z (lit_lt (by kernel_rfl)) hZ (by decide) (by omega) ho.1 ho) _), fun _ _ FF28 MM28 => then_n ?_⟩))
        refine wp_seq ?_
        cases hn : rget (K, N, Z) dn with
        | none =>
          have hz : notZ (K, N, Z) dn = -1 := if_neg (by rw [hn]; simp)
          refine wp_seq (rg_c FF28 MM28 [(6, w_ 6)] 14 [53] [] (⟨by omega, fun _ _ FF29 MM29 => then_n ?_⟩))
          refine wp_cond_true (FF29.ev 0 rfl) ?_
          refine rg_c FF29 MM29 [(3, l_ 2 (iN f)), (3, s_ 2 (oC #[.bool false, pT t, .slice pv1 ks.length cv1, v2, .slice pv3 dn.length cv3, iN (f + 1)] 37))] 14 [] [] (⟨rfl, rfl, by omega, rfl, (by simp), (.inl rfl), rfl, fun _ _ FF30 MM30 => ?_⟩)
          refine then_n ?_
          refine wp_seq (rg_c FF30 MM30 [] 12 [13] [] (fun _ wd31 FF31 MM31 => then_n ?_))
          have Mz32 : MemS S w0 wd31 ((bn, .cells (cn .u8 N) 44) :: (bk, .cells (cn .u8 K) 41) :: (q, oC #[.bool false, pT t, .slice pv1 ks.length cv1, v2, .slice pv3 dn.length cv3, iN (f + 1)] 37) :: (t, oC #[sB X, iN u] 32) :: O1) ((.slice pv3 dn.length cv3, 101, 46, dn.length, (notC dn)) :: (v2, 93, 32, is.length, (keyC is)) :: R) := MemS.thw (K := [(bn, .cells (cn .u8 N) 44), (bk, .cells (cn .u8 K) 41), (q, oC #[.bool false, pT t, .slice pv1 ks.length cv1, v2, .slice pv3 dn.length cv3, iN (f + 1)] 37), (t, oC #[sB X, iN u] 32)]) (O := O1) MM31 hFv3
          have Mz33 : MemS S w0 wd31 ((bn, .cells (cn .u8 N) 44) :: (bk, .cells (cn .u8 K) 41) :: (q, oC #[.bool false, pT t, .slice pv1 ks.length cv1, v2, .slice pv3 dn.length cv3, iN (f + 1)] 37) :: (t, oC #[sB X, iN u] 32) :: L) ((.slice pv1 ks.length cv1, 88, 64, ks.length, (keyC ks)) :: (.slice pv3 dn.length cv3, 101, 46, dn.length, (notC dn)) :: (v2, 93, 32, is.length, (keyC is)) :: R) := MemS.thw (K := [(bn, .cells (cn .u8 N) 44), (bk, .cells (cn .u8 K) 41), (q, oC #[.bool false, pT t, .slice pv1 ks.length cv1, v2, .slice pv3 dn.length cv3, iN (f + 1)] 37), (t, oC #[sB X, iN u] 32)]) (O := L) Mz32 hFv1
          have Mz34 : MemS S w0 wd31 ((bn, .cells (cn .u8 N) 44) :: (bk, .cells (cn .u8 K) 41) :: (q, oC #[.bool false, pT t, .slice pv1 ks.length cv1, v2, .slice pv3 dn.length cv3, iN (f + 1)] 37) :: (t, oC #[sB X, iN u] 32) :: L) ((.slice pv1 ks.length cv1, 88, 64, ks.length, (keyC ks)) :: (v2, 93, 32, is.length, (keyC is)) :: (.slice pv3 dn.length cv3, 101, 46, dn.length, (notC dn)) :: R) := Mz33.rowsPerm ((List.Perm.swap _ _ _).cons _)
          refine wp_ret ?_
          repeat first | refine then_ret ?_ | refine inb_ret ?_
          exact (ret_tup2 FF31 1 0 Try.results22 rfl rfl (by rw [(opn_real hg).1, (opn_real hg).2, if_pos ho, decide_eq_true ho]; exact ⟨rfl, _, _, ((Mz34.dropAt 1).dropAt 0)⟩))
        | some pl =>
          have hz : notZ (K, N, Z) dn = ((rix (K, N, Z) dn : Nat) : Int) := if_pos (by rw [hn]; rfl)
          obtain ⟨hx1, hx2⟩ := rix_lt hn
          refine wp_seq (rg_c FF28 MM28 [(6, u_ 4 (.bool false))] 14 [53] [] (⟨(dec_f (by omega)), fun _ _ FF35 MM35 => then_n ?_⟩))
          refine wp_cond_false (FF35.ev 0 rfl) ?_
          refine wp_skip ?_
          refine then_n ?_
          refine wp_seq (rg_c FF35 MM35 [] 12 [13] [] (fun _ wd36 FF36 MM36 => then_n ?_))
          have Mz37 : MemS S w0 wd36 ((bn, .cells (cn .u8 N) 44) :: (bk, .cells (cn .u8 K) 41) :: (q, oC #[.bool false, pT t, .slice pv1 ks.length cv1, v2, .slice pv3 dn.length cv3, iN f] 37) :: (t, oC #[sB X, iN u] 32) :: O1) ((.slice pv3 dn.length cv3, 101, 46, dn.length, (notC dn)) :: (v2, 93, 32, is.length, (keyC is)) :: R) := MemS.thw (K := [(bn, .cells (cn .u8 N) 44), (bk, .cells (cn .u8 K) 41), (q, oC #[.bool false, pT t, .slice pv1 ks.length cv1, v2, .slice pv3 dn.length cv3, iN f] 37), (t, oC #[sB X, iN u] 32)]) (O := O1) MM36 hFv3
          have Mz38 : MemS S w0 wd36 ((bn, .cells (cn .u8 N) 44) :: (bk, .cells (cn .u8 K) 41) :: (q, oC #[.bool false, pT t, .slice pv1 ks.length cv1, v2, .slice pv3 dn.length cv3, iN f] 37) :: (t, oC #[sB X, iN u] 32) :: L) ((.slice pv1 ks.length cv1, 88, 64, ks.length, (keyC ks)) :: (.slice pv3 dn.length cv3, 101, 46, dn.length, (notC dn)) :: (v2, 93, 32, is.length, (keyC is)) :: R) := MemS.thw (K := [(bn, .cells (cn .u8 N) 44), (bk, .cells (cn .u8 K) 41), (q, oC #[.bool false, pT t, .slice pv1 ks.length cv1, v2, .slice pv3 dn.length cv3, iN f] 37), (t, oC #[sB X, iN u] 32)]) (O := L) Mz37 hFv1
          have Mz39 : MemS S w0 wd36 ((bn, .cells (cn .u8 N) 44) :: (bk, .cells (cn .u8 K) 41) :: (q, oC #[.bool false, pT t, .slice pv1 ks.length cv1, v2, .slice pv3 dn.length cv3, iN f] 37) :: (t, oC #[sB X, iN u] 32) :: L) ((.slice pv1 ks.length cv1, 88, 64, ks.length, (keyC ks)) :: (v2, 93, 32, is.length, (keyC is)) :: (.slice pv3 dn.length cv3, 101, 46, dn.length, (notC dn)) :: R) := Mz38.rowsPerm ((List.Perm.swap _ _ _).cons _)
          refine wp_ret ?_
          repeat first | refine then_ret ?_ | refine inb_ret ?_
          exact (ret_tup2 FF36 1 0 Try.results22 rfl rfl (by rw [(opn_real hg).1, (opn_real hg).2, if_pos ho, decide_eq_true ho]; exact ⟨rfl, _, _, ((Mz39.dropAt 1).dropAt 0)⟩))
      · skip
        refine wp_seq (rg_c FF27 MM27 [(0, b_ 1), (0, b_ 0), (1, t_ (.tuple #[sB [], .bool false]))] 14 [] [] (⟨rfl, ((cn_size _ _).trans hK.1), rfl, ((cn_size _ _).trans hN.1), (callP_of en_rOpen (ropen_no K N ⟨hK.1, hK.2⟩ ⟨hN.1, hN.2⟩ [] Z (lit_lt (by kernel_rfl)) hZ (by decide) (by omega) ho) _), fun _ _ FF40 MM40 => then_n ?_⟩))
        refine wp_seq ?_
        refine wp_seq (rg_c FF40 MM40 [] 14 [53] [] (fun _ _ FF41 MM41 => then_n ?_))
        refine wp_cond_false (FF41.ev 0 rfl) ?_
        refine wp_skip ?_
        refine then_n ?_
        refine wp_seq (rg_c FF41 MM41 [] 12 [13] [] (fun _ wd42 FF42 MM42 => then_n ?_))
        have Mz43 : MemS S w0 wd42 ((bn, .cells (cn .u8 N) 44) :: (bk, .cells (cn .u8 K) 41) :: (q, oC #[.bool false, pT t, .slice pv1 ks.length cv1, v2, .slice pv3 dn.length cv3, iN f] 37) :: (t, oC #[sB X, iN u] 32) :: O1) ((.slice pv3 dn.length cv3, 101, 46, dn.length, (notC dn)) :: (v2, 93, 32, is.length, (keyC is)) :: R) := MemS.thw (K := [(bn, .cells (cn .u8 N) 44), (bk, .cells (cn .u8 K) 41), (q, oC #[.bool false, pT t, .slice pv1 ks.length cv1, v2, .slice pv3 dn.length cv3, iN f] 37), (t, oC #[sB X, iN u] 32)]) (O := O1) MM42 hFv3
        have Mz44 : MemS S w0 wd42 ((bn, .cells (cn .u8 N) 44) :: (bk, .cells (cn .u8 K) 41) :: (q, oC #[.bool false, pT t, .slice pv1 ks.length cv1, v2, .slice pv3 dn.length cv3, iN f] 37) :: (t, oC #[sB X, iN u] 32) :: L) ((.slice pv1 ks.length cv1, 88, 64, ks.length, (keyC ks)) :: (.slice pv3 dn.length cv3, 101, 46, dn.length, (notC dn)) :: (v2, 93, 32, is.length, (keyC is)) :: R) := MemS.thw (K := [(bn, .cells (cn .u8 N) 44), (bk, .cells (cn .u8 K) 41), (q, oC #[.bool false, pT t, .slice pv1 ks.length cv1, v2, .slice pv3 dn.length cv3, iN f] 37), (t, oC #[sB X, iN u] 32)]) (O := L) Mz43 hFv1
        have Mz45 : MemS S w0 wd42 ((bn, .cells (cn .u8 N) 44) :: (bk, .cells (cn .u8 K) 41) :: (q, oC #[.bool false, pT t, .slice pv1 ks.length cv1, v2, .slice pv3 dn.length cv3, iN f] 37) :: (t, oC #[sB X, iN u] 32) :: L) ((.slice pv1 ks.length cv1, 88, 64, ks.length, (keyC ks)) :: (v2, 93, 32, is.length, (keyC is)) :: (.slice pv3 dn.length cv3, 101, 46, dn.length, (notC dn)) :: R) := Mz44.rowsPerm ((List.Perm.swap _ _ _).cons _)
        refine wp_ret ?_
        repeat first | refine then_ret ?_ | refine inb_ret ?_
        exact (ret_tup2 FF42 1 0 Try.results22 rfl rfl (by rw [(opn_real hg).1, (opn_real hg).2, if_neg ho, decide_eq_false ho, Bool.and_false]; exact ⟨rfl, _, _, ((Mz45.dropAt 1).dropAt 0)⟩))
    | true =>
      refine wp_seq (rg_c FF26 MM26 [(5, l_ 2 (.bool true))] 12 [28] [] (⟨rfl, rfl, fun _ _ FF46 MM46 => then_n ?_⟩))
      refine wp_cond_true (FF46.ev 0 rfl) ?_
      refine wp_seq ?_
      cases hn : rget (K, N, Z) dn with
      | none =>
        have hz : notZ (K, N, Z) dn = -1 := if_neg (by rw [hn]; simp)
        refine wp_seq (rg_c FF46 MM46 [(1, w_ 6)] 12 [30] [] (⟨by omega, fun _ _ FF47 MM47 => then_n ?_⟩))
        refine wp_cond_true (FF47.ev 0 rfl) ?_
        refine wp_seq (rg_c FF47 MM47 [(0, t_ (sB []))] 12 [] [] (⟨(by kernel_rfl), fun _ wd48 FF48 MM48 => then_n ?_⟩))
        have Mz49 : MemS S w0 wd48 ((bn, .cells (cn .u8 N) 44) :: (bk, .cells (cn .u8 K) 41) :: (q, oC #[.bool true, pT t, .slice pv1 ks.length cv1, v2, .slice pv3 dn.length cv3, iN f] 37) :: (t, oC #[sB X, iN u] 32) :: O1) ((.slice pv3 dn.length cv3, 101, 46, dn.length, (notC dn)) :: (v2, 93, 32, is.length, (keyC is)) :: R) := MemS.thw (K := [(bn, .cells (cn .u8 N) 44), (bk, .cells (cn .u8 K) 41), (q, oC #[.bool true, pT t, .slice pv1 ks.length cv1, v2, .slice pv3 dn.length cv3, iN f] 37), (t, oC #[sB X, iN u] 32)]) (O := O1) MM48 hFv3
        have Mz50 : MemS S w0 wd48 ((bn, .cells (cn .u8 N) 44) :: (bk, .cells (cn .u8 K) 41) :: (q, oC #[.bool true, pT t, .slice pv1 ks.length cv1, v2, .slice pv3 dn.length cv3, iN f] 37) :: (t, oC #[sB X, iN u] 32) :: L) ((.slice pv1 ks.length cv1, 88, 64, ks.length, (keyC ks)) :: (.slice pv3 dn.length cv3, 101, 46, dn.length, (notC dn)) :: (v2, 93, 32, is.length, (keyC is)) :: R) := MemS.thw (K := [(bn, .cells (cn .u8 N) 44), (bk, .cells (cn .u8 K) 41), (q, oC #[.bool true, pT t, .slice pv1 ks.length cv1, v2, .slice pv3 dn.length cv3, iN f] 37), (t, oC #[sB X, iN u] 32)]) (O := L) Mz49 hFv1
        have Mz51 : MemS S w0 wd48 ((bn, .cells (cn .u8 N) 44) :: (bk, .cells (cn .u8 K) 41) :: (q, oC #[.bool true, pT t, .slice pv1 ks.length cv1, v2, .slice pv3 dn.length cv3, iN f] 37) :: (t, oC #[sB X, iN u] 32) :: L) ((.slice pv1 ks.length cv1, 88, 64, ks.length, (keyC ks)) :: (v2, 93, 32, is.length, (keyC is)) :: (.slice pv3 dn.length cv3, 101, 46, dn.length, (notC dn)) :: R) := Mz50.rowsPerm ((List.Perm.swap _ _ _).cons _)
        refine wp_ret ?_
        repeat first | refine then_ret ?_ | refine inb_ret ?_
        exact (ret_tup2 FF48 1 0 Try.results22 rfl rfl (by rw [(opn_ideal hg).1, (opn_ideal hg).2]; exact ⟨rfl, _, _, ((Mz51.dropAt 1).dropAt 0)⟩))
      | some pl =>
        have hz : notZ (K, N, Z) dn = ((rix (K, N, Z) dn : Nat) : Int) := if_pos (by rw [hn]; rfl)
        obtain ⟨hx1, hx2⟩ := rix_lt hn
        refine wp_seq (rg_c FF46 MM46 [(1, u_ 4 (.bool false))] 12 [30] [] (⟨(dec_f (by omega)), fun _ _ FF52 MM52 => then_n ?_⟩))
        refine wp_cond_false (FF52.ev 0 rfl) ?_
        refine wp_skip ?_
        refine then_n ?_
        refine wp_seq (rg_c FF52 MM52 [(3, l_ 2 (.slice pv3 dn.length cv3)), (0, t_ (iN (rix (K, N, Z) dn))), (0, f_ (.pointer (some ⟨gOf pv3, oOf pv3 + (rix (K, N, Z) dn) * 46, none⟩))), (1, f_ (sB pl))] 12 [] [] (⟨rfl, rfl, (vZ hz), (rowX_addr (x := (.tmp 34)) (y := (.tmp 35)) (k := 46) (i := rix (K, N, Z) dn) (by kernel_rfl) rfl rfl Try.underlying35 (by kernel_rfl) hR3 (by omega) hx1), (rowX_load (x := (.tmp 37)) (j := (rix (K, N, Z) dn) * 46 + 45) (by kernel_rfl) rfl Try.underlying9 rfl hR3 (fun _ hx => List.mem_cons_of_mem _ (List.mem_cons_of_mem _ (List.mem_cons_of_mem _ (List.mem_cons_of_mem _ (hx))))) (by omega) (by have h0 := (note_b hdn hx1).2; rw [hx2] at h0; exact h0)), fun _ wd53 FF53 MM53 => then_n ?_⟩))
        have Mz54 : MemS S w0 wd53 ((bn, .cells (cn .u8 N) 44) :: (bk, .cells (cn .u8 K) 41) :: (q, oC #[.bool true, pT t, .slice pv1 ks.length cv1, v2, .slice pv3 dn.length cv3, iN f] 37) :: (t, oC #[sB X, iN u] 32) :: O1) ((.slice pv3 dn.length cv3, 101, 46, dn.length, (notC dn)) :: (v2, 93, 32, is.length, (keyC is)) :: R) := MemS.thw (K := [(bn, .cells (cn .u8 N) 44), (bk, .cells (cn .u8 K) 41), (q, oC #[.bool true, pT t, .slice pv1 ks.length cv1, v2, .slice pv3 dn.length cv3, iN f] 37), (t, oC #[sB X, iN u] 32)]) (O := O1) MM53 hFv3
        have Mz55 : MemS S w0 wd53 ((bn, .cells (cn .u8 N) 44) :: (bk, .cells (cn .u8 K) 41) :: (q, oC #[.bool true, pT t, .slice pv1 ks.length cv1, v2, .slice pv3 dn.length cv3, iN f] 37) :: (t, oC #[sB X, iN u] 32) :: L) ((.slice pv1 ks.length cv1, 88, 64, ks.length, (keyC ks)) :: (.slice pv3 dn.length cv3, 101, 46, dn.length, (notC dn)) :: (v2, 93, 32, is.length, (keyC is)) :: R) := MemS.thw (K := [(bn, .cells (cn .u8 N) 44), (bk, .cells (cn .u8 K) 41), (q, oC #[.bool true, pT t, .slice pv1 ks.length cv1, v2, .slice pv3 dn.length cv3, iN f] 37), (t, oC #[sB X, iN u] 32)]) (O := L) Mz54 hFv1
        have Mz56 : MemS S w0 wd53 ((bn, .cells (cn .u8 N) 44) :: (bk, .cells (cn .u8 K) 41) :: (q, oC #[.bool true, pT t, .slice pv1 ks.length cv1, v2, .slice pv3 dn.length cv3, iN f] 37) :: (t, oC #[sB X, iN u] 32) :: L) ((.slice pv1 ks.length cv1, 88, 64, ks.length, (keyC ks)) :: (v2, 93, 32, is.length, (keyC is)) :: (.slice pv3 dn.length cv3, 101, 46, dn.length, (notC dn)) :: R) := Mz55.rowsPerm ((List.Perm.swap _ _ _).cons _)
        refine wp_ret ?_
        repeat first | refine then_ret ?_ | refine inb_ret ?_
        exact (ret_tup2 FF53 1 0 Try.results22 rfl rfl (by rw [(opn_ideal hg).1, (opn_ideal hg).2]; exact ⟨rfl, _, _, ((Mz56.dropAt 1).dropAt 0)⟩))
end Go.Proofs.Ytniplfjnpjihoaa
namespace Go.Proofs.Ytniplfjnpjihoaa
open Go.RowKit
theorem en_pnew : Enters Try.prog 9 := fun args w => by simp [go_sem]
theorem en_pshared : Enters Try.prog 24 := fun args w => by simp [go_sem]
theorem en_pshare : Enters Try.prog 13 := fun args w => by simp [go_sem]
theorem en_pshareid : Enters Try.prog 15 := fun args w => by simp [go_sem]
theorem en_pKey : Enters Try.prog 26 := fun args w => by simp [go_sem]
theorem en_pID : Enters Try.prog 28 := fun args w => by simp [go_sem]
theorem en_pseal : Enters Try.prog 18 := fun args w => by simp [go_sem]
theorem en_popen : Enters Try.prog 21 := fun args w => by simp [go_sem]
theorem en_pforged : Enters Try.prog 23 := fun args w => by simp [go_sem]
theorem laidP : laidOutB Try.prog = true := Try.laidOut
theorem key_law : MKey Try.prog 42 (fun X => .agg (cn .u8 X)) (BytesK 32) := bytes_key (e := 5) (d := 189) laidP (by decide +kernel) (by decide +kernel) (by decide +kernel) (by decide +kernel) Try.underlying42 Try.underlying5 (by kernel_rfl) (by kernel_rfl)
theorem id_law : MKey Try.prog 51 (fun X => .agg (cn .u8 X)) (BytesK 16) := bytes_key (e := 5) (d := 189) laidP (by decide +kernel) (by decide +kernel) (by decide +kernel) (by decide +kernel) Try.underlying51 Try.underlying5 (by kernel_rfl) (by kernel_rfl)
abbrev boxV (x : BoxK) : Value := .agg (cn .u8 x.1 ++ cn .u8 x.2.1 ++ #[sB x.2.2])
abbrev noteV (X : List Nat) : Value := sB X
def OkQ (pn : Notes) : Prop := (∀ p ∈ pn, OkB p.1 ∧ (∀ i, p.2.getD i 0 < 256) ∧ p.2.length ≤ 1000000) ∧ Uniq pn
abbrev NM (l : Notes) : Obj := mapO boxV noteV l
theorem box_size {x : BoxK} (h : OkB x) : (cn .u8 x.1 ++ cn .u8 x.2.1 ++ #[sB x.2.2]).size = 45 := by
  simp only [Array.size_append, cn_size, h.1.1, h.2.1.1]
  rfl
theorem box_key {P : Program} {d k e a0 a1 a2 : Nat} {fs : Array Field} {f0 f1 f2 : Field} (hl : laidOutB P = true) (hs : P.types.size + 2 ≤ 10000) (hd : P.types.size = d + 2) (hr : k < P.types.size) (hk : P.keyType k = true) (ht : P.underlying k = some (.struct fs)) (hf : fs.toList = [f0, f1, f2]) (hn : P.cellsOf k = 45)
    (hb : fs.all (·.name != "_") = true) (o0 : f0.offset = 0) (o1 : f1.offset = 32) (o2 : f2.offset = 44) (t0 : f0.type = a0) (t1 : f1.type = a1) (t2 : f2.type = a2) (h0 : P.underlying a0 = some (.array 32 e)) (h1 : P.underlying a1 = some (.array 12 e)) (h2 : P.underlying a2 = some .string)
    (he : P.underlying e = some (.int .u8)) (c0 : P.cellsOf a0 = 32) (c1 : P.cellsOf a1 = 12) (c2 : P.cellsOf a2 = 1) (ce : P.cellsOf e = 1) : MKey P k boxV OkB where
  law := deep_law_gate hl hs hr hk (by rw [ht])
  lit x hx := by
    have hsz := box_size hx
    obtain ⟨K, N, B⟩ := x
    obtain ⟨hK, hN, hB, hBl⟩ := hx
    have hBl : B.length ≤ 1000000 := hBl
    have ec : (cn .u8 K ++ cn .u8 N ++ #[sB B]).toList = (cn .u8 K).toList ++ ((cn .u8 N).toList ++ [sB B]) := by simp
    have lK : (cn .u8 K).toList.length = 32 := by rw [Array.length_toList, cn_size]; exact hK.1
    have lN : (cn .u8 N).toList.length = 12 := by rw [Array.length_toList, cn_size]; exact hN.1
    obtain ⟨q0, e0⟩ := lits_bytes (d := d) h0 he ce c0 hK
    obtain ⟨q1, e1⟩ := lits_bytes (d := d) h1 he ce c1 hN
    obtain ⟨q2, e2⟩ := lits_str (d := d + 1) h2 (X := B) (by simp only [maxLen]; omega)
    have p0 : (((cn .u8 K).toList ++ ((cn .u8 N).toList ++ [sB B])).drop 0).take 32 = (cn .u8 K).toList := by rw [List.drop_zero, List.take_append_of_le_length (by omega), List.take_of_length_le (by omega)]
    have p1 : (((cn .u8 K).toList ++ ((cn .u8 N).toList ++ [sB B])).drop 32).take 12 = (cn .u8 N).toList := by rw [List.drop_append_of_le_length (by omega), List.drop_of_length_le (by omega), List.nil_append, List.take_append_of_le_length (by omega), List.take_of_length_le (by omega)]
    have p2 : (((cn .u8 K).toList ++ ((cn .u8 N).toList ++ [sB B])).drop 44).take 1 = [sB B] := by
      rw [show 44 = (cn .u8 K).toList.length + 12 by omega, ← List.drop_drop, List.drop_left, show 12 = (cn .u8 N).toList.length by omega, List.drop_left]
      rfl
    have hL : P.keyLits (d + 3) k (cn .u8 K ++ cn .u8 N ++ #[sB B]).toList = some [q0, q1, q2].flatten := by
      unfold Program.keyLits
      rw [ht]
      dsimp only
      rw [if_pos ⟨by rw [Array.length_toList, hsz, hn], by rw [← Array.all_toList] at hb ⊢; exact hb⟩, hf, ec]
      simp only [List.mapM_cons, List.mapM_nil, o0, o1, o2, t0, t1, t2, c0, c1, c2, p0, p1, p2, e0, e1, e2, Option.bind_eq_bind, Option.bind_some, Option.pure_def, Option.map_some]
    exact ⟨_, by simp only [keyOf, ht, hk, Value.formed, Value.cells, hsz, hn, hd, hL, BEq.rfl, Bool.and_self, if_true, Option.map_some]; rfl⟩
  inj x y hx hy h := by
    obtain ⟨K, N, B⟩ := x
    obtain ⟨K', N', B'⟩ := y
    obtain ⟨hK, hN, hB, hBl⟩ := hx
    obtain ⟨hK', hN', hB', hBl'⟩ := hy
    have e := Value.agg.inj h
    simp only at hK hN hB hK' hN' hB' e
    have l1 : K.length = 32 := hK.1
    have l2 : N.length = 12 := hN.1
    have cell : ∀ (K N B : List Nat), K.length = 32 → N.length = 12 → (∀ i, i < 32 → (cn .u8 K ++ cn .u8 N ++ #[sB B])[i]? = some (iB (K.getD i 0))) ∧ (∀ i, i < 12 → (cn .u8 K ++ cn .u8 N ++ #[sB B])[32 + i]? = some (iB (N.getD i 0))) ∧ (cn .u8 K ++ cn .u8 N ++ #[sB B])[44]? = some (sB B) := fun K N B hK hN => by
      have s1 : (cn .u8 K).size = 32 := by rw [cn_size, hK]
      have s2 : (cn .u8 K ++ cn .u8 N).size = 44 := by rw [Array.size_append, cn_size, cn_size, hK, hN]
      refine ⟨fun i hi => ?_, fun i hi => ?_, ?_⟩
      · rw [Array.getElem?_append_left (by omega), Array.getElem?_append_left (by omega), cn_get _ _ _ (by omega)]
      · rw [Array.getElem?_append_left (by omega), Array.getElem?_append_right (by omega), s1, Nat.add_sub_cancel_left, cn_get _ _ _ (by omega)]
      · rw [Array.getElem?_append_right (by omega), s2]
        rfl
    obtain ⟨a1, a2, a3⟩ := cell K N B hK.1 hN.1
    obtain ⟨b1, b2, b3⟩ := cell K' N' B' hK'.1 hN'.1
    rw [e] at a1 a2 a3
    have num : ∀ {x y : Nat}, some (Value.int .u8 (x : Int)) = some (.int .u8 (y : Int)) → x = y := fun h => Int.ofNat.inj (Value.int.inj (Option.some.inj h)).2
    have eK : K = K' := ext_getD (hK.1.trans hK'.1.symm) fun i hi => num ((a1 i (by omega)).symm.trans (b1 i (by omega)))
    have eN : N = N' := ext_getD (hN.1.trans hN'.1.symm) fun i hi => num ((a2 i (by omega)).symm.trans (b2 i (by omega)))
    have eB : B = B' := bs_inj hB hB' (Value.string.inj (Option.some.inj (a3.symm.trans b3)))
    rw [eK, eN, eB]
theorem box_law : MKey Try.prog 98 boxV OkB := box_key (e := 5) (d := 188) laidP (by decide +kernel) (by decide +kernel) (by decide +kernel) (by decide +kernel) Try.underlying98 rfl (by kernel_rfl) (by decide +kernel) rfl rfl rfl rfl rfl rfl Try.underlying42 Try.underlying45 Try.underlying9 Try.underlying5 (by kernel_rfl) (by kernel_rfl) (by kernel_rfl) (by kernel_rfl)
/-- What is shared, as the program keeps it; what is noted. -/
abbrev KM (l : Pairs) : Obj := mapO (fun X => .agg (cn .u8 X)) (fun X => .agg (cn .u8 X)) l
abbrev BB (i : Bool) (t : Value) (m1 m2 m3 f : Nat) : Obj := .cells #[.bool i, t, .map (some m1), .map (some m2), .map (some m3), iN f] 82
set_option maxRecDepth 100000 in
theorem pshared_any {b m1 m2 m3 : Nat} {i : Bool} {t : Value} {f : Nat} {ks : Pairs} {K : List Nat} (hk : OkP 32 ks) (hK : BytesK 32 K) (w0 : World) (H : Has w0 [(b, oC #[.bool i, t, .map (some m1), .map (some m2), .map (some m3), iN f] 82), (m1, KM ks)]) (hD : Distinct [(b, oC #[.bool i, t, .map (some m1), .map (some m2), .map (some m3), iN f] 82), (m1, KM ks)]) :
    Calls Try.prog 24 #[pT b, .agg (cn .u8 K)] w0 fun e w' => e = .returned (.bool (mget K ks).isSome) ∧ TurnB [] w0 w' := by
  refine enter_fr Try.func24 rfl Try.ntmps24 (by simp) fun ac (FF : Fr 19 ac [(0, pT b), (1, .agg (cn .u8 K))]) => ?_
  have MM : MemS (fun k => k < w0.heap.size ∧ ∀ x ∈ [(b, oC #[.bool i, t, .map (some m1), .map (some m2), .map (some m3), iN f] 82), (m1, KM ks)], x.1 ≠ k) w0 w0 [(b, oC #[.bool i, t, .map (some m1), .map (some m2), .map (some m3), iN f] 82), (m1, KM ks)] [] := MemS.startN H hD
  refine wp_seq (rg_c FF MM [(0, s_ 0 (.cells (cn .u8 K) 42))] 5 [] [1] (⟨(by kernel_rfl), fun bk => fun _ _ FF1 MM1 => then_n ?_⟩))
  refine wp_seq ?_
  refine wp_seq (rg_c FF1 MM1 [(1, f_ (.bool false))] 5 [8] [] (⟨(ptrSome_ok (t := 25) (t' := 25) (x := (.tmp 7)) (y := (.const (.pointer none))) (by kernel_rfl) rfl rfl Try.underlying25), fun _ _ FF2 MM2 => then_n ?_⟩))
  refine wp_cond_false (FF2.ev 0 rfl) ?_
  refine wp_skip ?_
  refine then_n ?_
  cases hg : mget K ks with
  | none =>
    refine wp_seq (rg_lay FF2 MM2 [lval (pT b), lval (pT b), lval (.pointer (some ⟨b, 2, none⟩)), lval (.map (some m1)), lval (.agg (cn .u8 K)), lval (.tuple #[.agg (cn .u8 (List.replicate 32 0)), .bool false]), lval (.tuple #[.agg (cn .u8 (List.replicate 32 0)), .bool false]), lval (.agg (cn .u8 (List.replicate 32 0))), lval (.bool false), lnew (.cells (cn .u8 (List.replicate 32 0)) 42) (fun b => pT b) (some (10, .cells (cn .u8 (List.replicate 32 0)) 42)), lsto 9, lval (.bool false)] [o_, o_, o_, l_ 1 (.map (some m1)), b_ 0, f_ (.tuple #[.agg (cn .u8 (List.replicate 32 0)), .bool false]), o_, o_, o_, o_, o_, o_] [4, 0, 6] [b = b, (#[.bool i, t, .map (some m1), .map (some m2), .map (some m3), iN f] : Array Value)[2]? = some (.map (some m1)), bk = bk, (cn .u8 K).size = 32, RunV Try.prog [(13, .map (some m1)), (14, .agg (cn .u8 K)), (8, .bool false), (4, .bool false), (3, pT bk), (0, pT b)] [(bk, .cells (cn .u8 K) 42), (b, oC #[.bool i, t, .map (some m1), .map (some m2), .map (some m3), iN f] 82), (m1, KM ks)] (opAt Try.f24 3 5) (.tuple #[.agg (cn .u8 (List.replicate 32 0)), .bool false])] (fun nb => [(6, .bool false), (4, .bool false), (0, pT b)]) (fun nb => [((nb 9), .cells (cn .u8 (List.replicate 32 0)) 42), (bk, .cells (cn .u8 K) 42), (b, oC #[.bool i, t, .map (some m1), .map (some m2), .map (some m3), iN f] 82), (m1, KM ks)]) (by kernel_rfl) (by kernel_rfl) (by kernel_rfl) (by kernel_rfl) (fun _ => by kernel_rfl) (fun _ => by kernel_rfl) ⟨(fun a w => ⟨rfl, by simp [execOp, go_sem, cn]⟩), ⟨⟨5, 16, 42, (cn .u8 (List.replicate 32 0)), (cn .u8 (List.replicate 32 0)), 7, rfl, rfl, rfl, by kernel_rfl, rfl, rfl, by kernel_rfl, rfl, rfl, ((cn_size _ _).trans (List.length_replicate ..)).trans (((cn_size _ _).trans (List.length_replicate ..))).symm, (cn_one _ _), (show _ = some 32 by kernel_rfl).trans (congrArg some (((cn_size _ _).trans (List.length_replicate ..))).symm)⟩, trivial⟩⟩ ⟨rfl, rfl, rfl, ((cn_size _ _).trans hK.1), (mapNo_ok (t := 78) (m := (.tmp 13)) (y := (.tmp 14)) (b := m1) (i := 2) (kf := (fun X => .agg (cn .u8 X))) (vf := (fun X => .agg (cn .u8 X))) (l := ks) (x := K) (c := true) (z := .agg (cn .u8 (List.replicate 32 0))) (by kernel_rfl) rfl rfl Try.underlying78 key_law (fun p hp => (hk.1 p hp).1) hk.2 hK rfl (by kernel_rfl) hg), trivial⟩ (fun nb ac3 wd3 FF3 MM3 => then_n ?_))
    generalize nb 9 = bo at *
    refine wp_seq (rg_c FF3 MM3 [] 5 [] [] (fun _ _ FF4 MM4 => then_n ?_))
    refine wp_ret ?_
    repeat first | refine then_ret ?_ | refine inb_ret ?_
    exact (ret_fr FF4 0 Try.results24 rfl ⟨rfl, MM4.turnB [] H (fun _ h => (nomatch h)) (List.forall_mem_cons.2 ⟨.inl (List.mem_of_getElem? (i := 2) rfl), (List.forall_mem_cons.2 ⟨.inl (List.mem_of_getElem? (i := 3) rfl), (fun _ h => (nomatch h))⟩)⟩)⟩)
  | some own =>
    refine wp_seq (rg_lay FF2 MM2 [lval (pT b), lval (pT b), lval (.pointer (some ⟨b, 2, none⟩)), lval (.map (some m1)), lval (.agg (cn .u8 K)), lval (.tuple #[.agg (cn .u8 own), .bool true]), lval (.tuple #[.agg (cn .u8 own), .bool true]), lval (.agg (cn .u8 own)), lval (.bool true), lnew (.cells (cn .u8 (List.replicate 32 0)) 42) (fun b => pT b) (some (10, .cells (cn .u8 own) 42)), lsto 9, lval (.bool true)] [o_, o_, o_, l_ 1 (.map (some m1)), b_ 0, f_ (.tuple #[.agg (cn .u8 own), .bool true]), o_, o_, o_, o_, o_, o_] [4, 0, 6] [b = b, (#[.bool i, t, .map (some m1), .map (some m2), .map (some m3), iN f] : Array Value)[2]? = some (.map (some m1)), bk = bk, (cn .u8 K).size = 32, RunV Try.prog [(13, .map (some m1)), (14, .agg (cn .u8 K)), (8, .bool false), (4, .bool false), (3, pT bk), (0, pT b)] [(bk, .cells (cn .u8 K) 42), (b, oC #[.bool i, t, .map (some m1), .map (some m2), .map (some m3), iN f] 82), (m1, KM ks)] (opAt Try.f24 3 5) (.tuple #[.agg (cn .u8 own), .bool true])] (fun nb => [(6, .bool true), (4, .bool false), (0, pT b)]) (fun nb => [((nb 9), .cells (cn .u8 own) 42), (bk, .cells (cn .u8 K) 42), (b, oC #[.bool i, t, .map (some m1), .map (some m2), .map (some m3), iN f] 82), (m1, KM ks)]) (by kernel_rfl) (by kernel_rfl) (by kernel_rfl) (by kernel_rfl) (fun _ => by kernel_rfl) (fun _ => by kernel_rfl) ⟨(fun a w => ⟨rfl, by simp [execOp, go_sem, cn]⟩), ⟨⟨5, 16, 42, (cn .u8 (List.replicate 32 0)), (cn .u8 own), 7, rfl, rfl, rfl, by kernel_rfl, rfl, rfl, by kernel_rfl, rfl, rfl, ((cn_size _ _).trans (List.length_replicate ..)).trans (((cn_size _ _).trans (hk.1 _ (mget_mem hg)).2.1)).symm, (cn_one _ _), (show _ = some 32 by kernel_rfl).trans (congrArg some (((cn_size _ _).trans (hk.1 _ (mget_mem hg)).2.1)).symm)⟩, trivial⟩⟩ ⟨rfl, rfl, rfl, ((cn_size _ _).trans hK.1), (mapYes_ok (t := 78) (m := (.tmp 13)) (y := (.tmp 14)) (b := m1) (i := 2) (kf := (fun X => .agg (cn .u8 X))) (vf := (fun X => .agg (cn .u8 X))) (l := ks) (x := K) (c := true) (v := own) (by kernel_rfl) rfl rfl Try.underlying78 key_law (fun p hp => (hk.1 p hp).1) hk.2 hK rfl hg), trivial⟩ (fun nb ac5 wd5 FF5 MM5 => then_n ?_))
    generalize nb 9 = bo at *
    refine wp_seq (rg_c FF5 MM5 [] 5 [] [] (fun _ _ FF6 MM6 => then_n ?_))
    refine wp_ret ?_
    repeat first | refine then_ret ?_ | refine inb_ret ?_
    exact (ret_fr FF6 0 Try.results24 rfl ⟨rfl, MM6.turnB [] H (fun _ h => (nomatch h)) (List.forall_mem_cons.2 ⟨.inl (List.mem_of_getElem? (i := 2) rfl), (List.forall_mem_cons.2 ⟨.inl (List.mem_of_getElem? (i := 3) rfl), (fun _ h => (nomatch h))⟩)⟩)⟩)
/-- The names that the program keeps: in the real game none. -/
def idsP (i : Bool) (l : Pairs) : Pairs := match i with | true => l | false => []
theorem okP_ids {n : Nat} {i : Bool} {l : Pairs} (h : OkP n l) : OkP n (idsP i l) := by
  cases i with
  | true => exact h
  | false => exact okP_nil n
set_option maxRecDepth 100000 in
theorem pKey_any {b m1 m2 m3 : Nat} {i : Bool} {t : Value} {f : Nat} {ks : Pairs} {K : List Nat} (hk : OkP 32 ks) (hK : BytesK 32 K) (w0 : World) (H : Has w0 [(b, oC #[.bool i, t, .map (some m1), .map (some m2), .map (some m3), iN f] 82), (m1, KM ks)]) (hD : Distinct [(b, oC #[.bool i, t, .map (some m1), .map (some m2), .map (some m3), iN f] 82), (m1, KM ks)]) :
    Calls Try.prog 26 #[pT b, .agg (cn .u8 K)] w0 fun e w' => e = .returned (.agg (cn .u8 (ownN K ks))) ∧ TurnB [] w0 w' := by
  refine enter_fr Try.func26 rfl Try.ntmps26 (by simp) fun ac (FF : Fr 16 ac [(0, pT b), (1, .agg (cn .u8 K))]) => ?_
  have MM : MemS (fun k => k < w0.heap.size ∧ ∀ x ∈ [(b, oC #[.bool i, t, .map (some m1), .map (some m2), .map (some m3), iN f] 82), (m1, KM ks)], x.1 ≠ k) w0 w0 [(b, oC #[.bool i, t, .map (some m1), .map (some m2), .map (some m3), iN f] 82), (m1, KM ks)] [] := MemS.startN H hD
  refine wp_seq (rg_c FF MM [(0, s_ 0 (.cells (cn .u8 K) 42)), (0, s_ 0 (.cells (cn .u8 (List.replicate 32 0)) 42))] 5 [] [1] (⟨(by kernel_rfl), fun bk => ⟨(by kernel_rfl), fun br => fun _ _ FF1 MM1 => then_n ?_⟩⟩))
  refine wp_seq ?_
  cases hg : mget K ks with
  | none =>
    refine wp_seq (rg_c FF1 MM1 [(1, b_ 1), (0, u_ 1 (.bool false))] 5 [8] [] (⟨rfl, ((cn_size _ _).trans hK.1), (callP_B [2, 3] en_pshared rfl (fun w Hw => by have h0 := pshared_any hk hK w Hw (distinct_names rfl (distinct_at MM1.distinct (is := [2, 3]) rfl rfl)); rw [hg] at h0; exact h0)), fun _ _ FF2 MM2 => then_n ?_⟩))
    refine wp_cond_true (FF2.ev 0 rfl) ?_
    refine wp_seq (rg_c FF2 MM2 [(0, b_ 1), (0, b_ 0)] 5 [] [] (⟨rfl, ((cn_size _ _).trans hK.1), rfl, ((cn_size _ _).trans (List.length_replicate ..)), ((cn_size _ _).trans hK.1), (cn_one _ _), rfl, fun _ _ FF3 MM3 => then_n ?_⟩))
    refine wp_ret ?_
    repeat first | refine then_ret ?_ | refine inb_ret ?_
    exact (retc FF3 MM3 (k := 32) (i := 0) (j := 0) Try.results26 rfl rfl Try.underlying42 rfl (by kernel_rfl) ((cn_size _ _).trans hK.1) ⟨by rw [ownN, hg]; rfl, MM3.turnB [] H (fun _ h => (nomatch h)) (List.forall_mem_cons.2 ⟨.inl (List.mem_of_getElem? (i := 2) rfl), (List.forall_mem_cons.2 ⟨.inl (List.mem_of_getElem? (i := 3) rfl), (fun _ h => (nomatch h))⟩)⟩)⟩)
  | some own =>
    refine wp_seq (rg_c FF1 MM1 [(1, b_ 1), (0, u_ 1 (.bool true))] 5 [8] [] (⟨rfl, ((cn_size _ _).trans hK.1), (callP_B [2, 3] en_pshared rfl (fun w Hw => by have h0 := pshared_any hk hK w Hw (distinct_names rfl (distinct_at MM1.distinct (is := [2, 3]) rfl rfl)); rw [hg] at h0; exact h0)), fun _ _ FF4 MM4 => then_n ?_⟩))
    refine wp_cond_false (FF4.ev 0 rfl) ?_
    refine wp_skip ?_
    refine then_n ?_
    refine wp_seq (rg_dc 6 FF4 MM4 [(3, l_ 2 (.map (some m1))), (0, b_ 1), (0, f_ (.agg (cn .u8 own)))] [(0, b_ 0)] 5 [] [] (⟨rfl, rfl, rfl, ((cn_size _ _).trans hK.1), (mapYes_ok (t := 78) (m := (.tmp 13)) (y := (.tmp 14)) (b := m1) (i := 3) (kf := (fun X => .agg (cn .u8 X))) (vf := (fun X => .agg (cn .u8 X))) (l := ks) (x := K) (c := false) (v := own) (by kernel_rfl) rfl rfl Try.underlying78 key_law (fun p hp => (hk.1 p hp).1) hk.2 hK rfl hg), rfl, ((cn_size _ _).trans (List.length_replicate ..)), ((cn_size _ _).trans (hk.1 _ (mget_mem hg)).2.1), (cn_one _ _), rfl, fun _ _ FF5 MM5 => then_n ?_⟩))
    refine wp_ret ?_
    repeat first | refine then_ret ?_ | refine inb_ret ?_
    exact (retc FF5 MM5 (k := 32) (i := 0) (j := 0) Try.results26 rfl rfl Try.underlying42 rfl (by kernel_rfl) ((cn_size _ _).trans (hk.1 _ (mget_mem hg)).2.1) ⟨by rw [ownN, hg]; rfl, MM5.turnB [] H (fun _ h => (nomatch h)) (List.forall_mem_cons.2 ⟨.inl (List.mem_of_getElem? (i := 2) rfl), (List.forall_mem_cons.2 ⟨.inl (List.mem_of_getElem? (i := 3) rfl), (fun _ h => (nomatch h))⟩)⟩)⟩)
set_option maxRecDepth 100000 in
theorem pID_any {b m1 m2 m3 : Nat} {i : Bool} {t : Value} {f : Nat} {ks : Pairs} {K : List Nat} (hk : OkP 16 ks) (hK : BytesK 16 K) (w0 : World) (H : Has w0 [(b, oC #[.bool i, t, .map (some m1), .map (some m2), .map (some m3), iN f] 82), (m2, KM ks)]) (hD : Distinct [(b, oC #[.bool i, t, .map (some m1), .map (some m2), .map (some m3), iN f] 82), (m2, KM ks)]) :
    Calls Try.prog 28 #[pT b, .agg (cn .u8 K)] w0 fun e w' => e = .returned (.agg (cn .u8 (ownN K ks))) ∧ TurnB [] w0 w' := by
  refine enter_fr Try.func28 rfl Try.ntmps28 (by simp) fun ac (FF : Fr 22 ac [(0, pT b), (1, .agg (cn .u8 K))]) => ?_
  have MM : MemS (fun k => k < w0.heap.size ∧ ∀ x ∈ [(b, oC #[.bool i, t, .map (some m1), .map (some m2), .map (some m3), iN f] 82), (m2, KM ks)], x.1 ≠ k) w0 w0 [(b, oC #[.bool i, t, .map (some m1), .map (some m2), .map (some m3), iN f] 82), (m2, KM ks)] [] := MemS.startN H hD
  refine wp_seq (rg_c FF MM [(0, s_ 0 (.cells (cn .u8 K) 51)), (0, s_ 0 (.cells (cn .u8 (List.replicate 16 0)) 51))] 5 [] [1] (⟨(by kernel_rfl), fun bk => ⟨(by kernel_rfl), fun br => fun _ _ FF1 MM1 => then_n ?_⟩⟩))
  refine wp_seq ?_
  refine wp_seq (rg_c FF1 MM1 [(1, f_ (.bool false))] 5 [8] [] (⟨(ptrSome_ok (t := 25) (t' := 25) (x := (.tmp 7)) (y := (.const (.pointer none))) (by kernel_rfl) rfl rfl Try.underlying25), fun _ _ FF2 MM2 => then_n ?_⟩))
  refine wp_cond_false (FF2.ev 0 rfl) ?_
  refine wp_skip ?_
  refine then_n ?_
  refine wp_seq ?_
  cases hg : mget K ks with
  | none =>
    refine wp_seq (rg_lay FF2 MM2 [lval (pT b), lval (pT b), lval (.pointer (some ⟨b, 3, none⟩)), lval (.map (some m2)), lval (.agg (cn .u8 K)), lval (.tuple #[.agg (cn .u8 (List.replicate 16 0)), .bool false]), lval (.tuple #[.agg (cn .u8 (List.replicate 16 0)), .bool false]), lval (.agg (cn .u8 (List.replicate 16 0))), lval (.bool false), lnew (.cells (cn .u8 (List.replicate 16 0)) 51) (fun b => pT b) (some (10, .cells (cn .u8 (List.replicate 16 0)) 51)), lsto 9, lval (.bool false)] [o_, o_, o_, l_ 2 (.map (some m2)), b_ 1, f_ (.tuple #[.agg (cn .u8 (List.replicate 16 0)), .bool false]), o_, o_, o_, o_, o_, o_] [4, 3, 0, 5, 6] [b = b, (#[.bool i, t, .map (some m1), .map (some m2), .map (some m3), iN f] : Array Value)[3]? = some (.map (some m2)), bk = bk, (cn .u8 K).size = 16, RunV Try.prog [(14, .map (some m2)), (15, .agg (cn .u8 K)), (8, .bool false), (4, pT br), (3, pT bk), (0, pT b)] [(br, .cells (cn .u8 (List.replicate 16 0)) 51), (bk, .cells (cn .u8 K) 51), (b, oC #[.bool i, t, .map (some m1), .map (some m2), .map (some m3), iN f] 82), (m2, KM ks)] (opAt Try.f28 3 5) (.tuple #[.agg (cn .u8 (List.replicate 16 0)), .bool false])] (fun nb => [(6, .bool false), (5, pT (nb 9)), (4, pT br), (3, pT bk), (0, pT b)]) (fun nb => [((nb 9), .cells (cn .u8 (List.replicate 16 0)) 51), (br, .cells (cn .u8 (List.replicate 16 0)) 51), (bk, .cells (cn .u8 K) 51), (b, oC #[.bool i, t, .map (some m1), .map (some m2), .map (some m3), iN f] 82), (m2, KM ks)]) (by kernel_rfl) (by kernel_rfl) (by kernel_rfl) (by kernel_rfl) (fun _ => by kernel_rfl) (fun _ => by kernel_rfl) ⟨(fun a w => ⟨rfl, by simp [execOp, go_sem, cn]⟩), ⟨⟨5, 17, 51, (cn .u8 (List.replicate 16 0)), (cn .u8 (List.replicate 16 0)), 7, rfl, rfl, rfl, by kernel_rfl, rfl, rfl, by kernel_rfl, rfl, rfl, ((cn_size _ _).trans (List.length_replicate ..)).trans (((cn_size _ _).trans (List.length_replicate ..))).symm, (cn_one _ _), (show _ = some 16 by kernel_rfl).trans (congrArg some (((cn_size _ _).trans (List.length_replicate ..))).symm)⟩, trivial⟩⟩ ⟨rfl, rfl, rfl, ((cn_size _ _).trans hK.1), (mapNo_ok (t := 79) (m := (.tmp 14)) (y := (.tmp 15)) (b := m2) (i := 3) (kf := (fun X => .agg (cn .u8 X))) (vf := (fun X => .agg (cn .u8 X))) (l := ks) (x := K) (c := true) (z := .agg (cn .u8 (List.replicate 16 0))) (by kernel_rfl) rfl rfl Try.underlying79 id_law (fun p hp => (hk.1 p hp).1) hk.2 hK rfl (by kernel_rfl) hg), trivial⟩ (fun nb ac3 wd3 FF3 MM3 => then_n ?_))
    generalize nb 9 = bo at *
    refine wp_seq (rg_c FF3 MM3 [] 6 [19] [] (fun _ _ FF4 MM4 => then_n ?_))
    refine wp_cond_false (FF4.ev 0 rfl) ?_
    refine wp_skip ?_
    refine then_n ?_
    refine wp_seq (rg_c FF4 MM4 [(0, b_ 2), (0, b_ 1)] 6 [] [] (⟨rfl, ((cn_size _ _).trans hK.1), rfl, ((cn_size _ _).trans (List.length_replicate ..)), ((cn_size _ _).trans hK.1), (cn_one _ _), rfl, fun _ _ FF5 MM5 => then_n ?_⟩))
    refine wp_ret ?_
    repeat first | refine then_ret ?_ | refine inb_ret ?_
    exact (retc FF5 MM5 (k := 16) (i := 1) (j := 1) Try.results28 rfl rfl Try.underlying51 rfl (by kernel_rfl) ((cn_size _ _).trans hK.1) ⟨by rw [ownN, hg]; rfl, MM5.turnB [] H (fun _ h => (nomatch h)) (List.forall_mem_cons.2 ⟨.inl (List.mem_of_getElem? (i := 3) rfl), (List.forall_mem_cons.2 ⟨.inl (List.mem_of_getElem? (i := 4) rfl), (fun _ h => (nomatch h))⟩)⟩)⟩)
  | some own =>
    refine wp_seq (rg_lay FF2 MM2 [lval (pT b), lval (pT b), lval (.pointer (some ⟨b, 3, none⟩)), lval (.map (some m2)), lval (.agg (cn .u8 K)), lval (.tuple #[.agg (cn .u8 own), .bool true]), lval (.tuple #[.agg (cn .u8 own), .bool true]), lval (.agg (cn .u8 own)), lval (.bool true), lnew (.cells (cn .u8 (List.replicate 16 0)) 51) (fun b => pT b) (some (10, .cells (cn .u8 own) 51)), lsto 9, lval (.bool true)] [o_, o_, o_, l_ 2 (.map (some m2)), b_ 1, f_ (.tuple #[.agg (cn .u8 own), .bool true]), o_, o_, o_, o_, o_, o_] [4, 3, 0, 5, 6] [b = b, (#[.bool i, t, .map (some m1), .map (some m2), .map (some m3), iN f] : Array Value)[3]? = some (.map (some m2)), bk = bk, (cn .u8 K).size = 16, RunV Try.prog [(14, .map (some m2)), (15, .agg (cn .u8 K)), (8, .bool false), (4, pT br), (3, pT bk), (0, pT b)] [(br, .cells (cn .u8 (List.replicate 16 0)) 51), (bk, .cells (cn .u8 K) 51), (b, oC #[.bool i, t, .map (some m1), .map (some m2), .map (some m3), iN f] 82), (m2, KM ks)] (opAt Try.f28 3 5) (.tuple #[.agg (cn .u8 own), .bool true])] (fun nb => [(6, .bool true), (5, pT (nb 9)), (4, pT br), (3, pT bk), (0, pT b)]) (fun nb => [((nb 9), .cells (cn .u8 own) 51), (br, .cells (cn .u8 (List.replicate 16 0)) 51), (bk, .cells (cn .u8 K) 51), (b, oC #[.bool i, t, .map (some m1), .map (some m2), .map (some m3), iN f] 82), (m2, KM ks)]) (by kernel_rfl) (by kernel_rfl) (by kernel_rfl) (by kernel_rfl) (fun _ => by kernel_rfl) (fun _ => by kernel_rfl) ⟨(fun a w => ⟨rfl, by simp [execOp, go_sem, cn]⟩), ⟨⟨5, 17, 51, (cn .u8 (List.replicate 16 0)), (cn .u8 own), 7, rfl, rfl, rfl, by kernel_rfl, rfl, rfl, by kernel_rfl, rfl, rfl, ((cn_size _ _).trans (List.length_replicate ..)).trans (((cn_size _ _).trans (hk.1 _ (mget_mem hg)).2.1)).symm, (cn_one _ _), (show _ = some 16 by kernel_rfl).trans (congrArg some (((cn_size _ _).trans (hk.1 _ (mget_mem hg)).2.1)).symm)⟩, trivial⟩⟩ ⟨rfl, rfl, rfl, ((cn_size _ _).trans hK.1), (mapYes_ok (t := 79) (m := (.tmp 14)) (y := (.tmp 15)) (b := m2) (i := 3) (kf := (fun X => .agg (cn .u8 X))) (vf := (fun X => .agg (cn .u8 X))) (l := ks) (x := K) (c := true) (v := own) (by kernel_rfl) rfl rfl Try.underlying79 id_law (fun p hp => (hk.1 p hp).1) hk.2 hK rfl hg), trivial⟩ (fun nb ac6 wd6 FF6 MM6 => then_n ?_))
    generalize nb 9 = bo at *
    refine wp_seq (rg_c FF6 MM6 [] 6 [19] [] (fun _ _ FF7 MM7 => then_n ?_))
    refine wp_cond_true (FF7.ev 0 rfl) ?_
    refine wp_seq (rg_c FF7 MM7 [(0, b_ 0), (0, b_ 1)] 6 [] [] (⟨rfl, ((cn_size _ _).trans (hk.1 _ (mget_mem hg)).2.1), rfl, ((cn_size _ _).trans (List.length_replicate ..)), ((cn_size _ _).trans (hk.1 _ (mget_mem hg)).2.1), (cn_one _ _), rfl, fun _ _ FF8 MM8 => then_n ?_⟩))
    refine wp_ret ?_
    repeat first | refine then_ret ?_ | refine inb_ret ?_
    exact (retc FF8 MM8 (k := 16) (i := 1) (j := 1) Try.results28 rfl rfl Try.underlying51 rfl (by kernel_rfl) ((cn_size _ _).trans (hk.1 _ (mget_mem hg)).2.1) ⟨by rw [ownN, hg]; rfl, MM8.turnB [] H (fun _ h => (nomatch h)) (List.forall_mem_cons.2 ⟨.inl (List.mem_of_getElem? (i := 3) rfl), (List.forall_mem_cons.2 ⟨.inl (List.mem_of_getElem? (i := 4) rfl), (fun _ h => (nomatch h))⟩)⟩)⟩)
set_option maxRecDepth 100000 in
theorem pshare_any {b m1 m2 m3 : Nat} {f : Nat} {i : Bool} {t : Nat} {ks : Pairs} {K : List Nat} (hk : OkP 32 ks) (hK : BytesK 32 K) {X : List Nat} {u : Nat} (hX : ∀ i, X.getD i 0 < 256) (hu : u < 4611686018427000000) (w0 : World) (H : Has w0 [(b, oC #[.bool i, pT t, .map (some m1), .map (some m2), .map (some m3), iN f] 82), (m1, KM ks), (t, oC #[sB X, iN u] 84)]) (hD : Distinct [(b, oC #[.bool i, pT t, .map (some m1), .map (some m2), .map (some m3), iN f] 82), (m1, KM ks), (t, oC #[sB X, iN u] 84)]) :
    Calls Try.prog 13 #[pT b, .agg (cn .u8 K)] w0 fun e w' => e = .returned (.tuple #[]) ∧ TurnB [(m1, KM (shareK i 32 K ks X)), (t, TB (X.drop (shareU i 32 K ks)) (u + shareU i 32 K ks))] w0 w' := by
  refine enter_fr Try.func13 rfl Try.ntmps13 (by simp) fun ac (FF : Fr 31 ac [(0, pT b), (1, .agg (cn .u8 K))]) => ?_
  have MM : MemS (fun k => k < w0.heap.size ∧ ∀ x ∈ [(b, oC #[.bool i, pT t, .map (some m1), .map (some m2), .map (some m3), iN f] 82), (m1, KM ks), (t, oC #[sB X, iN u] 84)], x.1 ≠ k) w0 w0 [(b, oC #[.bool i, pT t, .map (some m1), .map (some m2), .map (some m3), iN f] 82), (m1, KM ks), (t, oC #[sB X, iN u] 84)] [] := MemS.startN H hD
  refine wp_seq (rg_c FF MM [(0, s_ 0 (.cells (cn .u8 K) 42))] 1 [3] [] (⟨(by kernel_rfl), fun bk => fun _ _ FF1 MM1 => then_n ?_⟩))
  refine wp_seq ?_
  cases hg : mget K ks with
  | none =>
    refine wp_seq (rg_c FF1 MM1 [(1, f_ (.bool false)), (2, b_ 0), (0, u_ 1 (.bool false))] 4 [10] [] (⟨(ptrSome_ok (t := 25) (t' := 25) (x := (.tmp 4)) (y := (.const (.pointer none))) (by kernel_rfl) rfl rfl Try.underlying25), rfl, ((cn_size _ _).trans hK.1), (callP_B [1, 2] en_pshared rfl (fun w Hw => by have h0 := pshared_any hk hK w Hw (distinct_names rfl (distinct_at MM1.distinct (is := [1, 2]) rfl rfl)); rw [hg] at h0; exact h0)), fun _ _ FF2 MM2 => then_n ?_⟩))
    refine wp_cond_false (FF2.ev 0 rfl) ?_
    refine wp_skip ?_
    refine then_n ?_
    cases i with
    | false =>
      refine wp_seq (rg_c FF2 MM2 [(3, l_ 1 (.bool false))] 4 [14] [] (⟨rfl, rfl, fun _ _ FF3 MM3 => then_n ?_⟩))
      refine wp_cond_false (FF3.ev 0 rfl) ?_
      refine rg_dc 6 FF3 MM3 [(3, l_ 1 (.map (some m1))), (0, b_ 0), (0, b_ 0)] [(0, r_ undef [(2, KM (ks ++ [(K, K)]))])] 4 [] [] (⟨rfl, rfl, rfl, ((cn_size _ _).trans hK.1), rfl, ((cn_size _ _).trans hK.1), (by rw [← mput_new _ hg]; exact (mapPut_ok (t := 78) (m := (.tmp 28)) (y := (.tmp 29)) (z := (.tmp 30)) (b := m1) (i := 2) (kf := (fun X => .agg (cn .u8 X))) (vf := (fun X => .agg (cn .u8 X))) (l := ks) (x := K) (v := K) (by kernel_rfl) rfl rfl rfl Try.underlying78 key_law (fun p hp => (hk.1 p hp).1) hk.2 hK rfl)), fun _ _ FF4 MM4 => ?_⟩)
      exact (end_none FF4 Try.results13 (by rw [(share_no hg _).1, (share_no hg []).2]; exact ⟨rfl, MM4.turnB [(m1, KM (ks ++ [(K, K)])), (t, oC #[sB X, iN u] 84)] H (List.forall_mem_cons.2 ⟨(List.mem_of_getElem? (i := 2) rfl), (List.forall_mem_cons.2 ⟨(List.mem_of_getElem? (i := 3) rfl), (fun _ h => (nomatch h))⟩)⟩) (List.forall_mem_cons.2 ⟨.inl (List.mem_of_getElem? (i := 1) rfl), (List.forall_mem_cons.2 ⟨.inr ⟨_, (List.mem_of_getElem? (i := 0) rfl), rfl⟩, (List.forall_mem_cons.2 ⟨.inr ⟨_, (List.mem_of_getElem? (i := 1) rfl), rfl⟩, (fun _ h => (nomatch h))⟩)⟩)⟩)⟩))
    | true =>
      refine wp_seq (rg_c FF2 MM2 [(3, l_ 1 (.bool true))] 4 [14] [] (⟨rfl, rfl, fun _ _ FF5 MM5 => then_n ?_⟩))
      refine wp_cond_true (FF5.ev 0 rfl) ?_
      refine late_stand (N := 11) [(b, oC #[.bool true, pT t, .map (some m1), .map (some m2), .map (some m3), iN f] 82), (bk, .cells (cn .u8 K) 42)] (by kernel_rfl) (by kernel_rfl) MM5 fun wq6 MM7 => ?_
      refine late_take FF5 (i := 0) (oi := (opAt Try.f13 3 0)) (v := (pT b)) (d := 15) (atL_has (is := [1, 0]) rfl MM7.hasL) (by kernel_rfl) (by kernel_rfl) (by kernel_rfl) (by kernel_rfl) (by kernel_rfl) (fun _ _ _ _ _ h => h) (by kernel_rfl) (by decide) (by kernel_rfl) (mvV (x := (.tmp 0)) (by kernel_rfl) rfl) fun _ FF8 => ?_
      refine late_take FF8 (i := 1) (oi := (opAt Try.f13 3 1)) (v := (pT b)) (d := 16) (atL_has (is := [1, 0]) rfl MM7.hasL) (by kernel_rfl) (by kernel_rfl) (by kernel_rfl) (by kernel_rfl) (by kernel_rfl) (fun _ _ _ _ _ h => h) (by kernel_rfl) (by decide) (by kernel_rfl) (nilV (x := (.tmp 15)) (by kernel_rfl) rfl) fun _ FF9 => ?_
      refine late_take FF9 (i := 2) (oi := (opAt Try.f13 3 2)) (v := (.pointer (some ⟨b, 2, none⟩))) (d := 17) (atL_has (is := [1, 0]) rfl MM7.hasL) (by kernel_rfl) (by kernel_rfl) (by kernel_rfl) (by kernel_rfl) (by kernel_rfl) (fun _ _ _ _ _ h => h) (by kernel_rfl) (by decide) (by kernel_rfl) (fldV (x := (.tmp 16)) (t := 82) (k := 2) (cs := []) (by kernel_rfl) rfl (by kernel_rfl)) fun _ FF10 => ?_
      refine late_take FF10 (i := 3) (oi := (opAt Try.f13 3 3)) (v := (.map (some m1))) (d := 18) (atL_has (is := [1, 0]) rfl MM7.hasL) (by kernel_rfl) (by kernel_rfl) (by kernel_rfl) (by kernel_rfl) (by kernel_rfl) (fun _ _ _ _ _ h => h) (by kernel_rfl) (by decide) (by kernel_rfl) (loadVi (x := (.tmp 17)) (k := 0) (by kernel_rfl) rfl Try.underlying78 rfl rfl rfl) fun _ FF11 => ?_
      refine late_take FF11 (i := 4) (oi := (opAt Try.f13 3 4)) (v := (.agg (cn .u8 K))) (d := 19) (atL_has (is := [1, 0]) rfl MM7.hasL) (by kernel_rfl) (by kernel_rfl) (by kernel_rfl) (by kernel_rfl) (by kernel_rfl) (fun _ _ _ _ _ h => h) (by kernel_rfl) (by decide) (by kernel_rfl) (loadRi (x := (.tmp 3)) (k := 1) (m := 32) (by kernel_rfl) rfl Try.underlying42 rfl (by kernel_rfl) rfl ((cn_size _ _).trans hK.1)) fun _ FF12 => ?_
      refine late_take FF12 (i := 5) (oi := (opAt Try.f13 3 5)) (v := (pT b)) (d := 20) (atL_has (is := [1, 0]) rfl MM7.hasL) (by kernel_rfl) (by kernel_rfl) (by kernel_rfl) (by kernel_rfl) (by kernel_rfl) (fun _ _ _ _ _ h => h) (by kernel_rfl) (by decide) (by kernel_rfl) (mvV (x := (.tmp 0)) (by kernel_rfl) rfl) fun _ FF13 => ?_
      refine late_take FF13 (i := 6) (oi := (opAt Try.f13 3 6)) (v := (pT b)) (d := 21) (atL_has (is := [1, 0]) rfl MM7.hasL) (by kernel_rfl) (by kernel_rfl) (by kernel_rfl) (by kernel_rfl) (by kernel_rfl) (fun _ _ _ _ _ h => h) (by kernel_rfl) (by decide) (by kernel_rfl) (nilV (x := (.tmp 20)) (by kernel_rfl) rfl) fun _ FF14 => ?_
      refine late_take FF14 (i := 7) (oi := (opAt Try.f13 3 7)) (v := (.pointer (some ⟨b, 1, none⟩))) (d := 22) (atL_has (is := [1, 0]) rfl MM7.hasL) (by kernel_rfl) (by kernel_rfl) (by kernel_rfl) (by kernel_rfl) (by kernel_rfl) (fun _ _ _ _ _ h => h) (by kernel_rfl) (by decide) (by kernel_rfl) (fldV (x := (.tmp 21)) (t := 82) (k := 1) (cs := []) (by kernel_rfl) rfl (by kernel_rfl)) fun _ FF15 => ?_
      refine late_take FF15 (i := 8) (oi := (opAt Try.f13 3 8)) (v := (pT t)) (d := 23) (atL_has (is := [1, 0]) rfl MM7.hasL) (by kernel_rfl) (by kernel_rfl) (by kernel_rfl) (by kernel_rfl) (by kernel_rfl) (fun _ _ _ _ _ h => h) (by kernel_rfl) (by decide) (by kernel_rfl) (loadVi (x := (.tmp 22)) (k := 0) (by kernel_rfl) rfl Try.underlying27 rfl rfl rfl) fun _ FF16 => ?_
      refine late_one (i := 9) (oi := (opAt Try.f13 3 9)) (by kernel_rfl) (by kernel_rfl) ?_
      refine rp_c 1 FF16 MM7 [(0, c_ (.agg (cn .u8 (takN 32 X))) [(3, oC #[sB (X.drop 32), iN (u + 32)] 84)])] 4 [19, 18, 24] [] (⟨(callU_turn en_tkey (g := t) (ob := TB X u) rfl fun w hg => by have h0 := tkey_any t X u hX (by omega) w hg; exact h0), fun _ _ FF17 MM17 => ?_⟩)
      refine wpl_nil (onN_n ⟨fun _ => (atL_has (is := [1, 0]) rfl MM17.hasL), ?_⟩)
      refine late_one (i := 10) (oi := (opAt Try.f13 3 10)) (by kernel_rfl) (by kernel_rfl) ?_
      refine rp_c 1 FF17 MM17 [(0, r_ undef [(2, KM (ks ++ [(K, takN 32 X)]))])] 4 [] [] (⟨(by rw [← mput_new _ hg]; exact (mapPut_ok (t := 78) (m := (.tmp 18)) (y := (.tmp 19)) (z := (.tmp 24)) (b := m1) (i := 2) (kf := (fun X => .agg (cn .u8 X))) (vf := (fun X => .agg (cn .u8 X))) (l := ks) (x := K) (v := takN 32 X) (by kernel_rfl) rfl rfl rfl Try.underlying78 key_law (fun p hp => (hk.1 p hp).1) hk.2 hK rfl)), fun _ _ FF18 MM18 => ?_⟩)
      refine wpl_nil (onN_n ⟨fun _ => (atL_has (is := [1, 0]) rfl MM18.hasL), ?_⟩)
      refine late_none (by kernel_rfl) ?_
      exact (end_none FF18 Try.results13 (by rw [(share_no hg _).1, (share_no hg []).2]; exact ⟨rfl, MM18.turnB [(m1, KM (ks ++ [(K, takN 32 X)])), (t, oC #[sB (X.drop 32), iN (u + 32)] 84)] H (List.forall_mem_cons.2 ⟨(List.mem_of_getElem? (i := 2) rfl), (List.forall_mem_cons.2 ⟨(List.mem_of_getElem? (i := 3) rfl), (fun _ h => (nomatch h))⟩)⟩) (List.forall_mem_cons.2 ⟨.inl (List.mem_of_getElem? (i := 1) rfl), (List.forall_mem_cons.2 ⟨.inr ⟨_, (List.mem_of_getElem? (i := 0) rfl), rfl⟩, (List.forall_mem_cons.2 ⟨.inr ⟨_, (List.mem_of_getElem? (i := 1) rfl), rfl⟩, (fun _ h => (nomatch h))⟩)⟩)⟩)⟩))
  | some own =>
    refine wp_seq (rg_c FF1 MM1 [(1, f_ (.bool false)), (2, b_ 0), (0, u_ 1 (.bool true))] 4 [10] [] (⟨(ptrSome_ok (t := 25) (t' := 25) (x := (.tmp 4)) (y := (.const (.pointer none))) (by kernel_rfl) rfl rfl Try.underlying25), rfl, ((cn_size _ _).trans hK.1), (callP_B [1, 2] en_pshared rfl (fun w Hw => by have h0 := pshared_any hk hK w Hw (distinct_names rfl (distinct_at MM1.distinct (is := [1, 2]) rfl rfl)); rw [hg] at h0; exact h0)), fun _ _ FF19 MM19 => then_n ?_⟩))
    refine wp_cond_true (FF19.ev 0 rfl) ?_
    refine wp_ret ?_
    repeat first | refine then_ret ?_ | refine inb_ret ?_
    exact (ret_none FF19 Try.results13 (by rw [(share_yes hg _).1, (share_yes hg []).2, List.drop_zero]; exact ⟨rfl, MM19.turnB [(m1, KM ks), (t, oC #[sB X, iN u] 84)] H (List.forall_mem_cons.2 ⟨(List.mem_of_getElem? (i := 2) rfl), (List.forall_mem_cons.2 ⟨(List.mem_of_getElem? (i := 3) rfl), (fun _ h => (nomatch h))⟩)⟩) (List.forall_mem_cons.2 ⟨.inl (List.mem_of_getElem? (i := 1) rfl), (List.forall_mem_cons.2 ⟨.inr ⟨_, (List.mem_of_getElem? (i := 0) rfl), rfl⟩, (List.forall_mem_cons.2 ⟨.inr ⟨_, (List.mem_of_getElem? (i := 1) rfl), rfl⟩, (fun _ h => (nomatch h))⟩)⟩)⟩)⟩))
set_option maxRecDepth 100000 in
theorem pshare_real {b m1 m2 m3 : Nat} {f : Nat} {t_ : Value} {ks : Pairs} {K : List Nat} (hk : OkP 32 ks) (hK : BytesK 32 K) (w0 : World) (H : Has w0 [(b, oC #[.bool false, t_, .map (some m1), .map (some m2), .map (some m3), iN f] 82), (m1, KM ks)]) (hD : Distinct [(b, oC #[.bool false, t_, .map (some m1), .map (some m2), .map (some m3), iN f] 82), (m1, KM ks)]) :
    Calls Try.prog 13 #[pT b, .agg (cn .u8 K)] w0 fun e w' => e = .returned (.tuple #[]) ∧ TurnB [(m1, KM (shareK false 32 K ks []))] w0 w' := by
  refine enter_fr Try.func13 rfl Try.ntmps13 (by simp) fun ac (FF : Fr 31 ac [(0, pT b), (1, .agg (cn .u8 K))]) => ?_
  have MM : MemS (fun k => k < w0.heap.size ∧ ∀ x ∈ [(b, oC #[.bool false, t_, .map (some m1), .map (some m2), .map (some m3), iN f] 82), (m1, KM ks)], x.1 ≠ k) w0 w0 [(b, oC #[.bool false, t_, .map (some m1), .map (some m2), .map (some m3), iN f] 82), (m1, KM ks)] [] := MemS.startN H hD
  refine wp_seq (rg_c FF MM [(0, s_ 0 (.cells (cn .u8 K) 42))] 1 [3] [] (⟨(by kernel_rfl), fun bk => fun _ _ FF1 MM1 => then_n ?_⟩))
  refine wp_seq ?_
  cases hg : mget K ks with
  | none =>
    refine wp_seq (rg_c FF1 MM1 [(1, f_ (.bool false)), (2, b_ 0), (0, u_ 1 (.bool false))] 4 [10] [] (⟨(ptrSome_ok (t := 25) (t' := 25) (x := (.tmp 4)) (y := (.const (.pointer none))) (by kernel_rfl) rfl rfl Try.underlying25), rfl, ((cn_size _ _).trans hK.1), (callP_B [1, 2] en_pshared rfl (fun w Hw => by have h0 := pshared_any hk hK w Hw (distinct_names rfl (distinct_at MM1.distinct (is := [1, 2]) rfl rfl)); rw [hg] at h0; exact h0)), fun _ _ FF2 MM2 => then_n ?_⟩))
    refine wp_cond_false (FF2.ev 0 rfl) ?_
    refine wp_skip ?_
    refine then_n ?_
    refine wp_seq (rg_c FF2 MM2 [(3, l_ 1 (.bool false))] 4 [14] [] (⟨rfl, rfl, fun _ _ FF3 MM3 => then_n ?_⟩))
    refine wp_cond_false (FF3.ev 0 rfl) ?_
    refine rg_dc 6 FF3 MM3 [(3, l_ 1 (.map (some m1))), (0, b_ 0), (0, b_ 0)] [(0, r_ undef [(2, KM (ks ++ [(K, K)]))])] 4 [] [] (⟨rfl, rfl, rfl, ((cn_size _ _).trans hK.1), rfl, ((cn_size _ _).trans hK.1), (by rw [← mput_new _ hg]; exact (mapPut_ok (t := 78) (m := (.tmp 28)) (y := (.tmp 29)) (z := (.tmp 30)) (b := m1) (i := 2) (kf := (fun X => .agg (cn .u8 X))) (vf := (fun X => .agg (cn .u8 X))) (l := ks) (x := K) (v := K) (by kernel_rfl) rfl rfl rfl Try.underlying78 key_law (fun p hp => (hk.1 p hp).1) hk.2 hK rfl)), fun _ _ FF4 MM4 => ?_⟩)
    exact (end_none FF4 Try.results13 (by rw [(share_no hg _).1]; exact ⟨rfl, MM4.turnB [(m1, KM (ks ++ [(K, K)]))] H (List.forall_mem_cons.2 ⟨(List.mem_of_getElem? (i := 2) rfl), (fun _ h => (nomatch h))⟩) (List.forall_mem_cons.2 ⟨.inl (List.mem_of_getElem? (i := 1) rfl), (List.forall_mem_cons.2 ⟨.inr ⟨_, (List.mem_of_getElem? (i := 0) rfl), rfl⟩, (fun _ h => (nomatch h))⟩)⟩)⟩))
  | some own =>
    refine wp_seq (rg_c FF1 MM1 [(1, f_ (.bool false)), (2, b_ 0), (0, u_ 1 (.bool true))] 4 [10] [] (⟨(ptrSome_ok (t := 25) (t' := 25) (x := (.tmp 4)) (y := (.const (.pointer none))) (by kernel_rfl) rfl rfl Try.underlying25), rfl, ((cn_size _ _).trans hK.1), (callP_B [1, 2] en_pshared rfl (fun w Hw => by have h0 := pshared_any hk hK w Hw (distinct_names rfl (distinct_at MM1.distinct (is := [1, 2]) rfl rfl)); rw [hg] at h0; exact h0)), fun _ _ FF5 MM5 => then_n ?_⟩))
    refine wp_cond_true (FF5.ev 0 rfl) ?_
    refine wp_ret ?_
    repeat first | refine then_ret ?_ | refine inb_ret ?_
    exact (ret_none FF5 Try.results13 (by rw [(share_yes hg _).1]; exact ⟨rfl, MM5.turnB [(m1, KM ks)] H (List.forall_mem_cons.2 ⟨(List.mem_of_getElem? (i := 2) rfl), (fun _ h => (nomatch h))⟩) (List.forall_mem_cons.2 ⟨.inl (List.mem_of_getElem? (i := 1) rfl), (List.forall_mem_cons.2 ⟨.inr ⟨_, (List.mem_of_getElem? (i := 0) rfl), rfl⟩, (fun _ h => (nomatch h))⟩)⟩)⟩))
theorem shareU_real (n : Nat) (K : List Nat) (ks : Pairs) : shareU false n K ks = 0 := by
  unfold shareU
  split <;> rfl
set_option maxRecDepth 100000 in
theorem pshareid_any {b m1 m2 m3 : Nat} {f : Nat} {i : Bool} {t : Nat} {ks : Pairs} {K : List Nat} (hk : OkP 16 ks) (hK : BytesK 16 K) {X : List Nat} {u : Nat} (hX : ∀ i, X.getD i 0 < 256) (hu : u < 4611686018427000000) (w0 : World) (H : Has w0 [(b, oC #[.bool i, pT t, .map (some m1), .map (some m2), .map (some m3), iN f] 82), (m2, KM (idsP i ks)), (t, oC #[sB X, iN u] 84)]) (hD : Distinct [(b, oC #[.bool i, pT t, .map (some m1), .map (some m2), .map (some m3), iN f] 82), (m2, KM (idsP i ks)), (t, oC #[sB X, iN u] 84)]) :
    Calls Try.prog 15 #[pT b, .agg (cn .u8 K)] w0 fun e w' => e = .returned (.tuple #[]) ∧ TurnB [(m2, KM (idsP i (shareK i 16 K ks X))), (t, TB (X.drop (shareU i 16 K ks)) (u + shareU i 16 K ks))] w0 w' := by
  refine enter_fr Try.func15 rfl Try.ntmps15 (by simp) fun ac (FF : Fr 36 ac [(0, pT b), (1, .agg (cn .u8 K))]) => ?_
  have MM : MemS (fun k => k < w0.heap.size ∧ ∀ x ∈ [(b, oC #[.bool i, pT t, .map (some m1), .map (some m2), .map (some m3), iN f] 82), (m2, KM (idsP i ks)), (t, oC #[sB X, iN u] 84)], x.1 ≠ k) w0 w0 [(b, oC #[.bool i, pT t, .map (some m1), .map (some m2), .map (some m3), iN f] 82), (m2, KM (idsP i ks)), (t, oC #[sB X, iN u] 84)] [] := MemS.startN H hD
  refine wp_seq (rg_c FF MM [(0, s_ 0 (.cells (cn .u8 K) 51))] 1 [3] [] (⟨(by kernel_rfl), fun bk => fun _ _ FF1 MM1 => then_n ?_⟩))
  refine wp_seq ?_
  cases i with
  | false =>
    refine wp_seq (rg_c FF1 MM1 [(1, f_ (.bool false)), (4, l_ 1 (.bool false))] 4 [14] [] (⟨(ptrSome_ok (t := 25) (t' := 25) (x := (.tmp 6)) (y := (.const (.pointer none))) (by kernel_rfl) rfl rfl Try.underlying25), rfl, rfl, fun _ _ FF2 MM2 => then_n ?_⟩))
    refine wp_cond_true (FF2.ev 0 rfl) ?_
    refine wp_ret ?_
    repeat first | refine then_ret ?_ | refine inb_ret ?_
    exact (ret_none FF2 Try.results15 (by rw [shareU_real, List.drop_zero]; exact ⟨rfl, MM2.turnB [(m2, KM (idsP false ks)), (t, oC #[sB X, iN u] 84)] H (List.forall_mem_cons.2 ⟨(List.mem_of_getElem? (i := 2) rfl), (List.forall_mem_cons.2 ⟨(List.mem_of_getElem? (i := 3) rfl), (fun _ h => (nomatch h))⟩)⟩) (List.forall_mem_cons.2 ⟨.inl (List.mem_of_getElem? (i := 1) rfl), (List.forall_mem_cons.2 ⟨.inr ⟨_, (List.mem_of_getElem? (i := 0) rfl), rfl⟩, (List.forall_mem_cons.2 ⟨.inr ⟨_, (List.mem_of_getElem? (i := 1) rfl), rfl⟩, (fun _ h => (nomatch h))⟩)⟩)⟩)⟩))
  | true =>
    refine wp_seq (rg_c FF1 MM1 [(1, f_ (.bool false)), (4, l_ 1 (.bool true))] 4 [14] [] (⟨(ptrSome_ok (t := 25) (t' := 25) (x := (.tmp 6)) (y := (.const (.pointer none))) (by kernel_rfl) rfl rfl Try.underlying25), rfl, rfl, fun _ wd3 FF3 MM3 => then_n ?_⟩))
    refine wp_cond_false (FF3.ev 0 rfl) ?_
    refine wp_skip ?_
    refine then_n ?_
    have MM4 : MemS _ w0 wd3 [(bk, .cells (cn .u8 K) 51), (b, oC #[.bool true, pT t, .map (some m1), .map (some m2), .map (some m3), iN f] 82), (m2, KM ks), (t, oC #[sB X, iN u] 84)] [] := MM3
    cases hg : mget K ks with
    | none =>
      refine wp_seq (rg_lay FF3 MM4 [lval (pT b), lval (pT b), lval (.pointer (some ⟨b, 3, none⟩)), lval (.map (some m2)), lval (.agg (cn .u8 K)), lval (.tuple #[.agg (cn .u8 (List.replicate 16 0)), .bool false]), lval (.tuple #[.agg (cn .u8 (List.replicate 16 0)), .bool false]), lval (.agg (cn .u8 (List.replicate 16 0))), lval (.bool false), lnew (.cells (cn .u8 (List.replicate 16 0)) 51) (fun b => pT b) (some (10, .cells (cn .u8 (List.replicate 16 0)) 51)), lsto 9, lval (.bool false)] [o_, o_, o_, l_ 1 (.map (some m2)), b_ 0, f_ (.tuple #[.agg (cn .u8 (List.replicate 16 0)), .bool false]), o_, o_, o_, o_, o_, o_] [3, 0, 5] [b = b, (#[.bool true, pT t, .map (some m1), .map (some m2), .map (some m3), iN f] : Array Value)[3]? = some (.map (some m2)), bk = bk, (cn .u8 K).size = 16, RunV Try.prog [(19, .map (some m2)), (20, .agg (cn .u8 K)), (14, .bool false), (3, pT bk), (0, pT b)] [(bk, .cells (cn .u8 K) 51), (b, oC #[.bool true, pT t, .map (some m1), .map (some m2), .map (some m3), iN f] 82), (m2, KM ks), (t, oC #[sB X, iN u] 84)] (opAt Try.f15 2 5) (.tuple #[.agg (cn .u8 (List.replicate 16 0)), .bool false])] (fun nb => [(5, .bool false), (3, pT bk), (0, pT b)]) (fun nb => [((nb 9), .cells (cn .u8 (List.replicate 16 0)) 51), (bk, .cells (cn .u8 K) 51), (b, oC #[.bool true, pT t, .map (some m1), .map (some m2), .map (some m3), iN f] 82), (m2, KM ks), (t, oC #[sB X, iN u] 84)]) (by kernel_rfl) (by kernel_rfl) (by kernel_rfl) (by kernel_rfl) (fun _ => by kernel_rfl) (fun _ => by kernel_rfl) ⟨(fun a w => ⟨rfl, by simp [execOp, go_sem, cn]⟩), ⟨⟨4, 22, 51, (cn .u8 (List.replicate 16 0)), (cn .u8 (List.replicate 16 0)), 7, rfl, rfl, rfl, by kernel_rfl, rfl, rfl, by kernel_rfl, rfl, rfl, ((cn_size _ _).trans (List.length_replicate ..)).trans (((cn_size _ _).trans (List.length_replicate ..))).symm, (cn_one _ _), (show _ = some 16 by kernel_rfl).trans (congrArg some (((cn_size _ _).trans (List.length_replicate ..))).symm)⟩, trivial⟩⟩ ⟨rfl, rfl, rfl, ((cn_size _ _).trans hK.1), (mapNo_ok (t := 79) (m := (.tmp 19)) (y := (.tmp 20)) (b := m2) (i := 2) (kf := (fun X => .agg (cn .u8 X))) (vf := (fun X => .agg (cn .u8 X))) (l := ks) (x := K) (c := true) (z := .agg (cn .u8 (List.replicate 16 0))) (by kernel_rfl) rfl rfl Try.underlying79 id_law (fun p hp => (hk.1 p hp).1) hk.2 hK rfl (by kernel_rfl) hg), trivial⟩ (fun nb ac5 wd5 FF5 MM5 => then_n ?_))
      generalize nb 9 = bo at *
      refine wp_seq (rg_c FF5 MM5 [] 4 [25] [] (fun _ _ FF6 MM6 => then_n ?_))
      refine wp_cond_true (FF6.ev 0 rfl) ?_
      refine late_stand (N := 11) [(b, oC #[.bool true, pT t, .map (some m1), .map (some m2), .map (some m3), iN f] 82), (bk, .cells (cn .u8 K) 51)] (by kernel_rfl) (by kernel_rfl) MM6 fun wq7 MM8 => ?_
      refine late_take FF6 (i := 0) (oi := (opAt Try.f15 4 0)) (v := (pT b)) (d := 26) (atL_has (is := [2, 1]) rfl MM8.hasL) (by kernel_rfl) (by kernel_rfl) (by kernel_rfl) (by kernel_rfl) (by kernel_rfl) (fun _ _ _ _ _ h => h) (by kernel_rfl) (by decide) (by kernel_rfl) (mvV (x := (.tmp 0)) (by kernel_rfl) rfl) fun _ FF9 => ?_
      refine late_take FF9 (i := 1) (oi := (opAt Try.f15 4 1)) (v := (pT b)) (d := 27) (atL_has (is := [2, 1]) rfl MM8.hasL) (by kernel_rfl) (by kernel_rfl) (by kernel_rfl) (by kernel_rfl) (by kernel_rfl) (fun _ _ _ _ _ h => h) (by kernel_rfl) (by decide) (by kernel_rfl) (nilV (x := (.tmp 26)) (by kernel_rfl) rfl) fun _ FF10 => ?_
      refine late_take FF10 (i := 2) (oi := (opAt Try.f15 4 2)) (v := (.pointer (some ⟨b, 3, none⟩))) (d := 28) (atL_has (is := [2, 1]) rfl MM8.hasL) (by kernel_rfl) (by kernel_rfl) (by kernel_rfl) (by kernel_rfl) (by kernel_rfl) (fun _ _ _ _ _ h => h) (by kernel_rfl) (by decide) (by kernel_rfl) (fldV (x := (.tmp 27)) (t := 82) (k := 3) (cs := []) (by kernel_rfl) rfl (by kernel_rfl)) fun _ FF11 => ?_
      refine late_take FF11 (i := 3) (oi := (opAt Try.f15 4 3)) (v := (.map (some m2))) (d := 29) (atL_has (is := [2, 1]) rfl MM8.hasL) (by kernel_rfl) (by kernel_rfl) (by kernel_rfl) (by kernel_rfl) (by kernel_rfl) (fun _ _ _ _ _ h => h) (by kernel_rfl) (by decide) (by kernel_rfl) (loadVi (x := (.tmp 28)) (k := 0) (by kernel_rfl) rfl Try.underlying79 rfl rfl rfl) fun _ FF12 => ?_
      refine late_take FF12 (i := 4) (oi := (opAt Try.f15 4 4)) (v := (.agg (cn .u8 K))) (d := 30) (atL_has (is := [2, 1]) rfl MM8.hasL) (by kernel_rfl) (by kernel_rfl) (by kernel_rfl) (by kernel_rfl) (by kernel_rfl) (fun _ _ _ _ _ h => h) (by kernel_rfl) (by decide) (by kernel_rfl) (loadRi (x := (.tmp 3)) (k := 1) (m := 16) (by kernel_rfl) rfl Try.underlying51 rfl (by kernel_rfl) rfl ((cn_size _ _).trans hK.1)) fun _ FF13 => ?_
      refine late_take FF13 (i := 5) (oi := (opAt Try.f15 4 5)) (v := (pT b)) (d := 31) (atL_has (is := [2, 1]) rfl MM8.hasL) (by kernel_rfl) (by kernel_rfl) (by kernel_rfl) (by kernel_rfl) (by kernel_rfl) (fun _ _ _ _ _ h => h) (by kernel_rfl) (by decide) (by kernel_rfl) (mvV (x := (.tmp 0)) (by kernel_rfl) rfl) fun _ FF14 => ?_
      refine late_take FF14 (i := 6) (oi := (opAt Try.f15 4 6)) (v := (pT b)) (d := 32) (atL_has (is := [2, 1]) rfl MM8.hasL) (by kernel_rfl) (by kernel_rfl) (by kernel_rfl) (by kernel_rfl) (by kernel_rfl) (fun _ _ _ _ _ h => h) (by kernel_rfl) (by decide) (by kernel_rfl) (nilV (x := (.tmp 31)) (by kernel_rfl) rfl) fun _ FF15 => ?_
      refine late_take FF15 (i := 7) (oi := (opAt Try.f15 4 7)) (v := (.pointer (some ⟨b, 1, none⟩))) (d := 33) (atL_has (is := [2, 1]) rfl MM8.hasL) (by kernel_rfl) (by kernel_rfl) (by kernel_rfl) (by kernel_rfl) (by kernel_rfl) (fun _ _ _ _ _ h => h) (by kernel_rfl) (by decide) (by kernel_rfl) (fldV (x := (.tmp 32)) (t := 82) (k := 1) (cs := []) (by kernel_rfl) rfl (by kernel_rfl)) fun _ FF16 => ?_
      refine late_take FF16 (i := 8) (oi := (opAt Try.f15 4 8)) (v := (pT t)) (d := 34) (atL_has (is := [2, 1]) rfl MM8.hasL) (by kernel_rfl) (by kernel_rfl) (by kernel_rfl) (by kernel_rfl) (by kernel_rfl) (fun _ _ _ _ _ h => h) (by kernel_rfl) (by decide) (by kernel_rfl) (loadVi (x := (.tmp 33)) (k := 0) (by kernel_rfl) rfl Try.underlying27 rfl rfl rfl) fun _ FF17 => ?_
      refine late_one (i := 9) (oi := (opAt Try.f15 4 9)) (by kernel_rfl) (by kernel_rfl) ?_
      refine rp_c 1 FF17 MM8 [(0, c_ (.agg (cn .u8 (takN 16 X))) [(4, oC #[sB (X.drop 16), iN (u + 16)] 84)])] 4 [30, 29, 35] [] (⟨(callU_turn en_tid (g := t) (ob := TB X u) rfl fun w hg => by have h0 := tid_any t X u hX (by omega) w hg; exact h0), fun _ _ FF18 MM18 => ?_⟩)
      refine wpl_nil (onN_n ⟨fun _ => (atL_has (is := [2, 1]) rfl MM18.hasL), ?_⟩)
      refine late_one (i := 10) (oi := (opAt Try.f15 4 10)) (by kernel_rfl) (by kernel_rfl) ?_
      refine rp_c 1 FF18 MM18 [(0, r_ undef [(3, KM (ks ++ [(K, takN 16 X)]))])] 4 [] [] (⟨(by rw [← mput_new _ hg]; exact (mapPut_ok (t := 79) (m := (.tmp 29)) (y := (.tmp 30)) (z := (.tmp 35)) (b := m2) (i := 3) (kf := (fun X => .agg (cn .u8 X))) (vf := (fun X => .agg (cn .u8 X))) (l := ks) (x := K) (v := takN 16 X) (by kernel_rfl) rfl rfl rfl Try.underlying79 id_law (fun p hp => (hk.1 p hp).1) hk.2 hK rfl)), fun _ _ FF19 MM19 => ?_⟩)
      refine wpl_nil (onN_n ⟨fun _ => (atL_has (is := [2, 1]) rfl MM19.hasL), ?_⟩)
      refine late_none (by kernel_rfl) ?_
      exact (end_none FF19 Try.results15 (by rw [(share_no hg _).1, (share_no hg []).2]; exact ⟨rfl, MM19.turnB [(m2, KM (ks ++ [(K, takN 16 X)])), (t, oC #[sB (X.drop 16), iN (u + 16)] 84)] H (List.forall_mem_cons.2 ⟨(List.mem_of_getElem? (i := 3) rfl), (List.forall_mem_cons.2 ⟨(List.mem_of_getElem? (i := 4) rfl), (fun _ h => (nomatch h))⟩)⟩) (List.forall_mem_cons.2 ⟨.inl (List.mem_of_getElem? (i := 2) rfl), (List.forall_mem_cons.2 ⟨.inr ⟨_, (List.mem_of_getElem? (i := 0) rfl), rfl⟩, (List.forall_mem_cons.2 ⟨.inr ⟨_, (List.mem_of_getElem? (i := 1) rfl), rfl⟩, (fun _ h => (nomatch h))⟩)⟩)⟩)⟩))
    | some own =>
      refine wp_seq (rg_lay FF3 MM4 [lval (pT b), lval (pT b), lval (.pointer (some ⟨b, 3, none⟩)), lval (.map (some m2)), lval (.agg (cn .u8 K)), lval (.tuple #[.agg (cn .u8 own), .bool true]), lval (.tuple #[.agg (cn .u8 own), .bool true]), lval (.agg (cn .u8 own)), lval (.bool true), lnew (.cells (cn .u8 (List.replicate 16 0)) 51) (fun b => pT b) (some (10, .cells (cn .u8 own) 51)), lsto 9, lval (.bool true)] [o_, o_, o_, l_ 1 (.map (some m2)), b_ 0, f_ (.tuple #[.agg (cn .u8 own), .bool true]), o_, o_, o_, o_, o_, o_] [3, 0, 5] [b = b, (#[.bool true, pT t, .map (some m1), .map (some m2), .map (some m3), iN f] : Array Value)[3]? = some (.map (some m2)), bk = bk, (cn .u8 K).size = 16, RunV Try.prog [(19, .map (some m2)), (20, .agg (cn .u8 K)), (14, .bool false), (3, pT bk), (0, pT b)] [(bk, .cells (cn .u8 K) 51), (b, oC #[.bool true, pT t, .map (some m1), .map (some m2), .map (some m3), iN f] 82), (m2, KM ks), (t, oC #[sB X, iN u] 84)] (opAt Try.f15 2 5) (.tuple #[.agg (cn .u8 own), .bool true])] (fun nb => [(5, .bool true), (3, pT bk), (0, pT b)]) (fun nb => [((nb 9), .cells (cn .u8 own) 51), (bk, .cells (cn .u8 K) 51), (b, oC #[.bool true, pT t, .map (some m1), .map (some m2), .map (some m3), iN f] 82), (m2, KM ks), (t, oC #[sB X, iN u] 84)]) (by kernel_rfl) (by kernel_rfl) (by kernel_rfl) (by kernel_rfl) (fun _ => by kernel_rfl) (fun _ => by kernel_rfl) ⟨(fun a w => ⟨rfl, by simp [execOp, go_sem, cn]⟩), ⟨⟨4, 22, 51, (cn .u8 (List.replicate 16 0)), (cn .u8 own), 7, rfl, rfl, rfl, by kernel_rfl, rfl, rfl, by kernel_rfl, rfl, rfl, ((cn_size _ _).trans (List.length_replicate ..)).trans (((cn_size _ _).trans (hk.1 _ (mget_mem hg)).2.1)).symm, (cn_one _ _), (show _ = some 16 by kernel_rfl).trans (congrArg some (((cn_size _ _).trans (hk.1 _ (mget_mem hg)).2.1)).symm)⟩, trivial⟩⟩ ⟨rfl, rfl, rfl, ((cn_size _ _).trans hK.1), (mapYes_ok (t := 79) (m := (.tmp 19)) (y := (.tmp 20)) (b := m2) (i := 2) (kf := (fun X => .agg (cn .u8 X))) (vf := (fun X => .agg (cn .u8 X))) (l := ks) (x := K) (c := true) (v := own) (by kernel_rfl) rfl rfl Try.underlying79 id_law (fun p hp => (hk.1 p hp).1) hk.2 hK rfl hg), trivial⟩ (fun nb ac20 wd20 FF20 MM20 => then_n ?_))
      generalize nb 9 = bo at *
      refine wp_seq (rg_c FF20 MM20 [] 4 [25] [] (fun _ _ FF21 MM21 => then_n ?_))
      refine wp_cond_false (FF21.ev 0 rfl) ?_
      refine wp_skip ?_
      exact (end_none FF21 Try.results15 (by rw [(share_yes hg _).1, (share_yes hg []).2, List.drop_zero]; exact ⟨rfl, MM21.turnB [(m2, KM ks), (t, oC #[sB X, iN u] 84)] H (List.forall_mem_cons.2 ⟨(List.mem_of_getElem? (i := 3) rfl), (List.forall_mem_cons.2 ⟨(List.mem_of_getElem? (i := 4) rfl), (fun _ h => (nomatch h))⟩)⟩) (List.forall_mem_cons.2 ⟨.inl (List.mem_of_getElem? (i := 2) rfl), (List.forall_mem_cons.2 ⟨.inr ⟨_, (List.mem_of_getElem? (i := 0) rfl), rfl⟩, (List.forall_mem_cons.2 ⟨.inr ⟨_, (List.mem_of_getElem? (i := 1) rfl), rfl⟩, (fun _ h => (nomatch h))⟩)⟩)⟩)⟩))
end Go.Proofs.Ytniplfjnpjihoaa
namespace Go.Proofs.Ytniplfjnpjihoaa
open Go.RowKit
section
variable {P : Program} {l : Slots} {L : Blks} {o : Oper} {x y : Operand}
/-- A string over a row's head: the bytes are copied, the row is frozen so far. -/
theorem usRow_ok {t u e : TypeId} {g i : Nat} {cs : Array Value} {X : List Nat} (ho : o.op = .call ⟨.builtin .unsafeString, #[x, y], #[t, u]⟩) (hx : evO l x = some (.pointer (some ⟨g, 0, none⟩))) (hy : evO l y = some (.int .i64 (X.length : Nat)))
    (ht : P.underlying t = some (.pointer e)) (hc : P.cellsOf e = 1) (hL : L[i]? = some (g, .cells cs e)) (h0 : 0 < X.length) (hX : ∀ i, X.getD i 0 < 256) (hn : X.length ≤ cs.size) (h63 : X.length ≤ 9223372036854775807) (hcs : ∀ j, j < X.length → cs[j]? = some (.int .u8 (X.getD j 0 : Nat))) :
    RunU P l L o (.string (bs X)) [(i, .cells cs e (0, X.length))] := fun ρ w A H => by
  have h1 := A x _ hx
  have h1' := A y _ hy
  have hb := H i _ hL
  have hbl : (bs X).data.toList.length = X.length := by rw [Array.length_toList]; exact bs_size X
  have hr := Lib.run_unsafeString_row (P := P) w t u o.type e ht hc g cs.size (by simp [World.shape?, hb]) (bs X).data.toList (by intro h; rw [h] at hbl; simp at hbl; omega) (by rw [hbl]; exact hn) (by rw [hbl]; exact h63) (fun j z hz => by
    have hj : j < X.length := by rw [← hbl]; exact (List.getElem?_eq_some_iff.1 hz).1
    have e1 : (⟨g, 0, none⟩ : Addr).add j = ⟨g, j, none⟩ := by unfold Addr.add; split <;> simp_all
    rw [e1, Lib.cell_of_heap hb, hcs j hj]
    have e2 := byte_bs hX j
    simp only [nl] at e2
    have e3 : z.toNat = X.getD j 0 := by
      rw [← e2]
      simp [hz]
    rw [e3])
  rw [hbl] at hr
  refine ⟨w.freeze ⟨g, 0, none⟩ X.length, .inl ?_, ?_⟩
  · simp only [execOp, ho, resolve, invoke, builtin, h1, h1', hr, Sem.run_bind, Sem.run_pure, Result.andThen_ok, List.map_toArray, List.map_cons, List.map_nil]
  · have hne : X.length ≠ 0 := by omega
    unfold World.freeze
    rw [if_neg hne]
    refine ⟨rfl, rfl, rfl, by simp, fun k hk hu => ?_, fun o h => (nomatch h), fun _ => rfl, fun u hu z hz => ?_⟩
    · simp only [Array.getElem?_modify]
      rw [if_neg]
      intro e
      exact hu _ (List.mem_singleton.2 rfl) _ hL e
    · obtain rfl := List.mem_singleton.1 hu
      simp only at hz
      obtain rfl := Option.some.inj (hL.symm.trans hz)
      simp [Array.getElem?_modify, hb]
end
end Go.Proofs.Ytniplfjnpjihoaa
