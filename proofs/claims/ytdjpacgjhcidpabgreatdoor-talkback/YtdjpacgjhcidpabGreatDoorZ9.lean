/- Several texts in one: Talk: wakes. Numbers under the laws of curve: Prime. No program in this text. Numbers under the laws of curve: InvNum. No program in this text. Numbers under the laws of curve: Zp. No program in this text. Numbers under the laws of curve: Kum. No program in this text. Numbers under the laws of curve: Kum2. No program in this text. Numbers under the laws of curve: WeakNum. No program in this text. Numbers under the laws of curve: Kum3. No program in this text. Numbers under the laws of curve: Ell. No program in this text. Numbers under the laws of curve: MeetNum. No program in this text. The law TalkMeets. The law TalkBack. Package-level tables of numbers: what the row says that they hold, as a block. -/
import Derived.Test.YtdjpacgjhcidpabGreatDoorZ8
import Derived.Test.YtdjpacgjhcidpabGreatDoorZ5
import Derived.Test.YtdjpacgjhcidpabGreatDoorZ1
import Derived.ProofKit
import Derived.OpenShut
import Derived.MakeChecks
import Derived.LaidMore
import Derived.LaidHandle
import Derived.Stop.Joined
namespace Go.Proofs.YtdjpacgjhcidpabGreatDoor
open Go.RowKit
theorem en_wakes : Enters Tryz.prog 9 := fun args w => by simp [go_sem]
set_option maxRecDepth 100000 in
theorem wakes16 (Tg : TypeId) (fg : Nat × Nat)  (w0 : World) (hg : w0.heap[0]? = some (.cells (cn .u32 kTab) Tg fg)) :
    Calls Tryz.prog 9 #[] w0 fun e w' => e = .returned (.bool true) ∧ Below w0.heap.size w0 w' := by
  have MM := MemS.start1 hg
  refine enter_fr Tryz.func9 rfl Tryz.ntmps9 (by simp) fun ac (FF : Fr 120 ac []) => ?_
  refine wp_seq (rg_c FF MM [] 1 [] [] (fun _ _ FF1 MM1 => then_n ?_))
  refine wp_seq (rg_c FF1 MM1 [(0, t_ (.agg (cn .u8 kA))), (0, t_ (.agg (cn .u8 kB))), (0, s_ 0 (.cells (cn .u8 (List.replicate 32 0)) 23)), (0, s_ 0 (.cells (cn .u8 (List.replicate 32 0)) 23)), (0, b_ 1), (0, b_ 0)] 3 [] [] (⟨(Eq.trans (show _ = some (cn .u8 ([8, 0, 0, 0, 0, 0, 0, 0, 0, 0, 0, 0, 0, 0, 0, 0, 0, 0, 0, 0, 0, 0, 0, 0, 0, 0, 0, 0, 0, 0, 0, 0])) by kernel_rfl) (congrArg some (Value.agg.inj rfl))), (Eq.trans (show _ = some (cn .u8 ([16, 0, 0, 0, 0, 0, 0, 0, 0, 0, 0, 0, 0, 0, 0, 0, 0, 0, 0, 0, 0, 0, 0, 0, 0, 0, 0, 0, 0, 0, 0, 0])) by kernel_rfl) (congrArg some (Value.agg.inj rfl))), (by kernel_rfl), fun ba => ⟨(by kernel_rfl), fun bb => ⟨rfl, ((cn_size _ _).trans (List.length_replicate ..)), ((cn_size _ _).trans kA_ok.1), (cn_one _ _), rfl, rfl, ((cn_size _ _).trans (List.length_replicate ..)), ((cn_size _ _).trans kB_ok.1), (cn_one _ _), rfl, fun _ _ FF2 MM2 => then_n ?_⟩⟩⟩))
  refine wp_seq (rg_lay FF2 MM2 [lval (.agg (cn .u8 kA)), lval (.agg (cn .u8 kB)), lval (.agg (cn .u8 (pbN kB))), lval (.tuple #[.agg ((cn .u8 (outN kA (pbN kB))) ++ ((cn .u8 (inN kA (pbN kB))) ++ (cn .u8 (rootN kA (pbN kB))))), iN 0]), lval (.tuple #[.agg ((cn .u8 (outN kA (pbN kB))) ++ ((cn .u8 (inN kA (pbN kB))) ++ (cn .u8 (rootN kA (pbN kB))))), iN 0]), lval (.agg ((cn .u8 (outN kA (pbN kB))) ++ ((cn .u8 (inN kA (pbN kB))) ++ (cn .u8 (rootN kA (pbN kB)))))), lval (iN 0), lnew (.cells ((cn .u8 (List.replicate 32 0)) ++ (cn .u8 (List.replicate 32 0)) ++ (cn .u8 (List.replicate 32 0))) 26) (fun b => pT b) (some (8, .cells ((cn .u8 (outN kA (pbN kB))) ++ ((cn .u8 (inN kA (pbN kB))) ++ (cn .u8 (rootN kA (pbN kB))))) 26)), lsto 7, lval (iN 0)] [b_ 1, b_ 0, t_ (.agg (cn .u8 (pbN kB))), u_ 1 (.tuple #[.agg ((cn .u8 (outN kA (pbN kB))) ++ ((cn .u8 (inN kA (pbN kB))) ++ (cn .u8 (rootN kA (pbN kB))))), iN 0]), o_, o_, o_, o_, o_, o_] [2, 1, 0, 3, 4] [ba = ba, (cn .u8 kA).size = 32, bb = bb, (cn .u8 kB).size = 32, CallP Tryz.prog 7 [.agg (cn .u8 kB)] [] (.agg (cn .u8 (pbN kB))), CallP Tryz.prog 6 [.agg (cn .u8 kA), .agg (cn .u8 (pbN kB))] [(bb, .cells (cn .u8 kB) 23), (ba, .cells (cn .u8 kA) 23), (0, .cells (cn .u32 kTab) Tg fg)] (.tuple #[.agg ((cn .u8 (outN kA (pbN kB))) ++ ((cn .u8 (inN kA (pbN kB))) ++ (cn .u8 (rootN kA (pbN kB))))), iN 0])] (fun nb => [(4, iN 0), (3, pT (nb 7)), (2, pT bb), (1, pT ba), (0, .bool false)]) (fun nb => [((nb 7), .cells ((cn .u8 (outN kA (pbN kB))) ++ ((cn .u8 (inN kA (pbN kB))) ++ (cn .u8 (rootN kA (pbN kB))))) 26), (bb, .cells (cn .u8 kB) 23), (ba, .cells (cn .u8 kA) 23), (0, .cells (cn .u32 kTab) Tg fg)]) (by kernel_rfl) (by kernel_rfl) (by kernel_rfl) (by kernel_rfl) (fun _ => by kernel_rfl) (fun _ => by kernel_rfl) ⟨(fun a w => ⟨rfl, by simp [execOp, go_sem, show Tryz.zeroCells26 = ((cn .u8 (List.replicate 32 0)) ++ (cn .u8 (List.replicate 32 0)) ++ (cn .u8 (List.replicate 32 0))) by kernel_rfl]⟩), ⟨⟨3, 23, 26, ((cn .u8 (List.replicate 32 0)) ++ (cn .u8 (List.replicate 32 0)) ++ (cn .u8 (List.replicate 32 0))), ((cn .u8 (outN kA (pbN kB))) ++ ((cn .u8 (inN kA (pbN kB))) ++ (cn .u8 (rootN kA (pbN kB))))), 5, rfl, rfl, rfl, by kernel_rfl, rfl, rfl, by kernel_rfl, rfl, rfl, (show ((cn .u8 (List.replicate 32 0)) ++ (cn .u8 (List.replicate 32 0)) ++ (cn .u8 (List.replicate 32 0))).size = 96 from (by simp [cn_size])).trans (show ((cn .u8 (outN kA (pbN kB))) ++ ((cn .u8 (inN kA (pbN kB))) ++ (cn .u8 (rootN kA (pbN kB))))).size = 96 from (by simp [cn_size, (outN_ok kA (pbN kB)).1, (inN_ok kA (pbN kB)).1, (rootN_ok kA (pbN kB)).1])).symm, (one_app (cn_one _ _) (one_app (cn_one _ _) (cn_one _ _))), (show _ = some 96 by kernel_rfl).trans (congrArg some (show ((cn .u8 (outN kA (pbN kB))) ++ ((cn .u8 (inN kA (pbN kB))) ++ (cn .u8 (rootN kA (pbN kB))))).size = 96 from (by simp [cn_size, (outN_ok kA (pbN kB)).1, (inN_ok kA (pbN kB)).1, (rootN_ok kA (pbN kB)).1])).symm)⟩, trivial⟩⟩ ⟨rfl, ((cn_size _ _).trans kA_ok.1), rfl, ((cn_size _ _).trans kB_ok.1), (callP_of en_cpub (cpub_any kB ⟨kB_ok.1, kB_ok.2⟩) _), ⟨en_meet, fun w Hw => meet_ok Tg fg kA (pbN kB) ⟨kA_ok.1, kA_ok.2⟩ ⟨(pbN_ok kB).1, (pbN_ok kB).2⟩ nz_ab w (Hw 2 _ rfl)⟩, trivial⟩ (fun nb ac3 wd3 FF3 MM3 => then_n ?_))
  generalize nb 7 = bp at *
  refine wp_seq (rg_lay FF3 MM3 [lval (.agg (cn .u8 kB)), lval (.agg (cn .u8 kA)), lval (.agg (cn .u8 (pbN kA))), lval (.tuple #[.agg ((cn .u8 (outN kB (pbN kA))) ++ ((cn .u8 (inN kB (pbN kA))) ++ (cn .u8 (rootN kB (pbN kA))))), iN 0]), lval (.tuple #[.agg ((cn .u8 (outN kB (pbN kA))) ++ ((cn .u8 (inN kB (pbN kA))) ++ (cn .u8 (rootN kB (pbN kA))))), iN 0]), lval (.agg ((cn .u8 (outN kB (pbN kA))) ++ ((cn .u8 (inN kB (pbN kA))) ++ (cn .u8 (rootN kB (pbN kA)))))), lval (iN 0), lnew (.cells ((cn .u8 (List.replicate 32 0)) ++ (cn .u8 (List.replicate 32 0)) ++ (cn .u8 (List.replicate 32 0))) 26) (fun b => pT b) (some (8, .cells ((cn .u8 (outN kB (pbN kA))) ++ ((cn .u8 (inN kB (pbN kA))) ++ (cn .u8 (rootN kB (pbN kA))))) 26)), lsto 7, lval (iN 0)] [b_ 1, b_ 2, t_ (.agg (cn .u8 (pbN kA))), u_ 1 (.tuple #[.agg ((cn .u8 (outN kB (pbN kA))) ++ ((cn .u8 (inN kB (pbN kA))) ++ (cn .u8 (rootN kB (pbN kA))))), iN 0]), o_, o_, o_, o_, o_, o_] [4, 3, 2, 1, 0, 5, 6] [bb = bb, (cn .u8 kB).size = 32, ba = ba, (cn .u8 kA).size = 32, CallP Tryz.prog 7 [.agg (cn .u8 kA)] [] (.agg (cn .u8 (pbN kA))), CallP Tryz.prog 6 [.agg (cn .u8 kB), .agg (cn .u8 (pbN kA))] [(bp, .cells ((cn .u8 (outN kA (pbN kB))) ++ ((cn .u8 (inN kA (pbN kB))) ++ (cn .u8 (rootN kA (pbN kB))))) 26), (bb, .cells (cn .u8 kB) 23), (ba, .cells (cn .u8 kA) 23), (0, .cells (cn .u32 kTab) Tg fg)] (.tuple #[.agg ((cn .u8 (outN kB (pbN kA))) ++ ((cn .u8 (inN kB (pbN kA))) ++ (cn .u8 (rootN kB (pbN kA))))), iN 0])] (fun nb => [(6, iN 0), (5, pT (nb 7)), (4, iN 0), (3, pT bp), (2, pT bb), (1, pT ba), (0, .bool false)]) (fun nb => [((nb 7), .cells ((cn .u8 (outN kB (pbN kA))) ++ ((cn .u8 (inN kB (pbN kA))) ++ (cn .u8 (rootN kB (pbN kA))))) 26), (bp, .cells ((cn .u8 (outN kA (pbN kB))) ++ ((cn .u8 (inN kA (pbN kB))) ++ (cn .u8 (rootN kA (pbN kB))))) 26), (bb, .cells (cn .u8 kB) 23), (ba, .cells (cn .u8 kA) 23), (0, .cells (cn .u32 kTab) Tg fg)]) (by kernel_rfl) (by kernel_rfl) (by kernel_rfl) (by kernel_rfl) (fun _ => by kernel_rfl) (fun _ => by kernel_rfl) ⟨(fun a w => ⟨rfl, by simp [execOp, go_sem, show Tryz.zeroCells26 = ((cn .u8 (List.replicate 32 0)) ++ (cn .u8 (List.replicate 32 0)) ++ (cn .u8 (List.replicate 32 0))) by kernel_rfl]⟩), ⟨⟨5, 30, 26, ((cn .u8 (List.replicate 32 0)) ++ (cn .u8 (List.replicate 32 0)) ++ (cn .u8 (List.replicate 32 0))), ((cn .u8 (outN kB (pbN kA))) ++ ((cn .u8 (inN kB (pbN kA))) ++ (cn .u8 (rootN kB (pbN kA))))), 5, rfl, rfl, rfl, by kernel_rfl, rfl, rfl, by kernel_rfl, rfl, rfl, (show ((cn .u8 (List.replicate 32 0)) ++ (cn .u8 (List.replicate 32 0)) ++ (cn .u8 (List.replicate 32 0))).size = 96 from (by simp [cn_size])).trans (show ((cn .u8 (outN kB (pbN kA))) ++ ((cn .u8 (inN kB (pbN kA))) ++ (cn .u8 (rootN kB (pbN kA))))).size = 96 from (by simp [cn_size, (outN_ok kB (pbN kA)).1, (inN_ok kB (pbN kA)).1, (rootN_ok kB (pbN kA)).1])).symm, (one_app (cn_one _ _) (one_app (cn_one _ _) (cn_one _ _))), (show _ = some 96 by kernel_rfl).trans (congrArg some (show ((cn .u8 (outN kB (pbN kA))) ++ ((cn .u8 (inN kB (pbN kA))) ++ (cn .u8 (rootN kB (pbN kA))))).size = 96 from (by simp [cn_size, (outN_ok kB (pbN kA)).1, (inN_ok kB (pbN kA)).1, (rootN_ok kB (pbN kA)).1])).symm)⟩, trivial⟩⟩ ⟨rfl, ((cn_size _ _).trans kB_ok.1), rfl, ((cn_size _ _).trans kA_ok.1), (callP_of en_cpub (cpub_any kA ⟨kA_ok.1, kA_ok.2⟩) _), ⟨en_meet, fun w Hw => meet_ok Tg fg kB (pbN kA) ⟨kB_ok.1, kB_ok.2⟩ ⟨(pbN_ok kA).1, (pbN_ok kA).2⟩ nz_ba w (Hw 3 _ rfl)⟩, trivial⟩ (fun nb ac4 wd4 FF4 MM4 => then_n ?_))
  generalize nb 7 = bq at *
  refine wp_seq (rg_c FF4 MM4 [(0, b_ 3), (0, t_ (.agg (cn .u8 kZ))), (0, u_ 1 (.tuple #[.agg ((cn .u8 (List.replicate 32 0)) ++ (cn .u8 (List.replicate 32 0)) ++ (cn .u8 (List.replicate 32 0))), iN 2])), (3, s_ 0 (.cells ((cn .u8 (List.replicate 32 0)) ++ (cn .u8 (List.replicate 32 0)) ++ (cn .u8 (List.replicate 32 0))) 26)), (0, b_ 0)] 7 [8] [] (⟨rfl, ((cn_size _ _).trans kA_ok.1), (Eq.trans (show _ = some (cn .u8 (List.replicate 32 0)) by kernel_rfl) (congrArg some (Value.agg.inj rfl))), ⟨en_meet, fun w Hw => meet_weak Tg fg kA kZ ⟨kA_ok.1, kA_ok.2⟩ ⟨kZ_ok.1, kZ_ok.2⟩ cv_z w (Hw 4 _ rfl)⟩, (by kernel_rfl), fun bw => ⟨rfl, (by simp [cn_size]), (by simp [cn_size]), (one_app (one_app (cn_one _ _) (cn_one _ _)) (cn_one _ _)), rfl, fun _ _ FF5 MM5 => then_n ?_⟩⟩))
  refine wp_seq (late_stand (N := 8) [(bp, .cells ((cn .u8 (outN kA (pbN kB))) ++ ((cn .u8 (inN kA (pbN kB))) ++ (cn .u8 (rootN kA (pbN kB))))) 26)] (by kernel_rfl) (by kernel_rfl) MM5 fun wq6 MM7 => ?_)
  refine late_take FF5 (i := 1) (oi := (opAt Tryz.f9 5 1)) (v := (.agg ((cn .u8 (outN kA (pbN kB))) ++ ((cn .u8 (inN kA (pbN kB))) ++ (cn .u8 (rootN kA (pbN kB))))))) (d := 40) (atL_has (is := [2]) rfl MM7.hasL) (by kernel_rfl) (by kernel_rfl) (by kernel_rfl) (by kernel_rfl) (by kernel_rfl) (fun _ _ _ _ _ h => h) (by kernel_rfl) (by decide) (by kernel_rfl) (loadRi (x := (.tmp 3)) (k := 0) (m := 96) (by kernel_rfl) rfl Tryz.underlying26 rfl (by kernel_rfl) rfl (by simp [cn_size, (outN_ok kA (pbN kB)).1, (inN_ok kA (pbN kB)).1, (rootN_ok kA (pbN kB)).1])) fun _ FF8 => ?_
  refine late_one (i := 0) (oi := (opAt Tryz.f9 5 0)) (by kernel_rfl) (by kernel_rfl) ?_
  refine st_callE [40, 8, 6, 5, 4, 3, 2, 1, 0, 39] FF8 (d := 39) (mk := fun v => v) en_pnew rfl rfl (pnew_E false none _) rfl (by kernel_rfl) (by decide) fun ac10 wd10 lv9 FF10 hr11 => ?_
  obtain ⟨k, k1, k2, k3, rfl, hB_k, hN_k⟩ := hr11
  have MM12 : MemS (fun k => k < w0.heap.size ∧ k ≠ 0) w0 wd10 [(k, oC #[.bool false, .pointer none, .map (some k1), .map (some k2), .map (some k3), iN 0] 73), (k1, KM []), (k2, KM []), (k3, NM []), (bw, .cells ((cn .u8 (List.replicate 32 0)) ++ (cn .u8 (List.replicate 32 0)) ++ (cn .u8 (List.replicate 32 0))) 26), (bq, .cells ((cn .u8 (outN kB (pbN kA))) ++ ((cn .u8 (inN kB (pbN kA))) ++ (cn .u8 (rootN kB (pbN kA))))) 26), (bp, .cells ((cn .u8 (outN kA (pbN kB))) ++ ((cn .u8 (inN kA (pbN kB))) ++ (cn .u8 (rootN kA (pbN kB))))) 26), (bb, .cells (cn .u8 kB) 23), (ba, .cells (cn .u8 kA) 23), (0, .cells (cn .u32 kTab) Tg fg)] [] := MM7.addAll hB_k hN_k.1 hN_k.2.1 hN_k.2.2
  refine wpl_nil (onN_n ⟨fun _ => (atL_has (is := [6]) rfl MM12.hasL), ?_⟩)
  refine late_one (i := 2) (oi := (opAt Tryz.f9 5 2)) (by kernel_rfl) (by kernel_rfl) ?_
  refine rp_c 1 FF10 MM12 [(0, c_ (.tuple #[sB ((nmN (rootN kA (pbN kB)) 3) ++ (sealN (outN kA (pbN kB)) (nonN 3 3) [] (bodyN ([104, 105])))), iN 0]) [(1, KM (shareK false 32 (inN kA (pbN kB)) (shareK false 32 (outN kA (pbN kB)) [] []) [])), (3, NM (noteP false (outN kA (pbN kB)) (nonN 3 3) (shareK false 32 (inN kA (pbN kB)) (shareK false 32 (outN kA (pbN kB)) [] []) []) (bodyN ([104, 105])) []))])] 9 [41] [] (⟨(callU_B [0, 1, 2, 3, 9] en_say rfl rfl (fun w Hw => say_real Tg fg (outN kA (pbN kB)) (inN kA (pbN kB)) (rootN kA (pbN kB)) ([104, 105]) 3 ⟨(outN_ok kA (pbN kB)).1, (outN_ok kA (pbN kB)).2⟩ ⟨(inN_ok kA (pbN kB)).1, (inN_ok kA (pbN kB)).2⟩ ⟨(rootN_ok kA (pbN kB)).1, (rootN_ok kA (pbN kB)).2⟩ (by decide) (lit_lt (by kernel_rfl)) (by decide) w Hw (distinct_names rfl (distinct_at MM12.distinct (is := [0, 1, 2, 3, 9]) rfl rfl)))), fun _ _ FF13 MM13 => ?_⟩)
  refine wpl_nil (onN_n ⟨fun _ => (atL_has (is := [6]) rfl MM13.hasL), ?_⟩)
  refine late_take FF13 (i := 3) (oi := (opAt Tryz.f9 5 3)) (v := (.tuple #[sB ((nmN (rootN kA (pbN kB)) 3) ++ (sealN (outN kA (pbN kB)) (nonN 3 3) [] (bodyN ([104, 105])))), iN 0])) (d := 38) (atL_has (is := [6]) rfl MM13.hasL) (by kernel_rfl) (by kernel_rfl) (by kernel_rfl) (by kernel_rfl) (by kernel_rfl) (fun _ _ _ _ _ h => h) (by kernel_rfl) (by decide) (by kernel_rfl) (mvV (x := (.tmp 41)) (by kernel_rfl) rfl) fun _ FF14 => ?_
  refine late_take FF14 (i := 4) (oi := (opAt Tryz.f9 5 4)) (v := (sB ((nmN (rootN kA (pbN kB)) 3) ++ (sealN (outN kA (pbN kB)) (nonN 3 3) [] (bodyN ([104, 105])))))) (d := 42) (atL_has (is := [6]) rfl MM13.hasL) (by kernel_rfl) (by kernel_rfl) (by kernel_rfl) (by kernel_rfl) (by kernel_rfl) (fun _ _ _ _ _ h => h) (by kernel_rfl) (by decide) (by kernel_rfl) (extV (x := (.tmp 38)) (i := 0) (by kernel_rfl) rfl rfl) fun _ FF15 => ?_
  refine late_take FF15 (i := 5) (oi := (opAt Tryz.f9 5 5)) (v := (iN 0)) (d := 43) (atL_has (is := [6]) rfl MM13.hasL) (by kernel_rfl) (by kernel_rfl) (by kernel_rfl) (by kernel_rfl) (by kernel_rfl) (fun _ _ _ _ _ h => h) (by kernel_rfl) (by decide) (by kernel_rfl) (extV (x := (.tmp 38)) (i := 1) (by kernel_rfl) rfl rfl) fun _ FF16 => ?_
  refine late_one (i := 6) (oi := (opAt Tryz.f9 5 6)) (by kernel_rfl) (by kernel_rfl) ?_
  refine rp_c 1 FF16 MM13 [] 10 [43] [] (fun _ _ FF17 MM17 => ?_)
  refine wpl_nil (onN_n ⟨fun _ => (atL_has (is := [6]) rfl MM17.hasL), ?_⟩)
  refine late_one (i := 7) (oi := (opAt Tryz.f9 5 7)) (by kernel_rfl) (by kernel_rfl) ?_
  refine rp_c 1 FF17 MM17 [] 11 [] [] (fun _ _ FF18 MM18 => ?_)
  refine wpl_nil (onN_n ⟨fun _ => (atL_has (is := [6]) rfl MM18.hasL), ?_⟩)
  refine late_none (by kernel_rfl) (then_n ?_)
  refine wp_seq (rg_c FF18 MM18 [(1, t_ (.tuple #[.agg (cn .u8 (nmN (rootN kA (pbN kB)) 3)), sB (sealN (outN kA (pbN kB)) (nonN 3 3) [] (bodyN [104, 105])), .bool true])), (4, s_ 0 (.cells (cn .u8 (List.replicate 16 0)) 32)), (0, b_ 0)] 14 [] [9] (⟨(callP_of en_parts (fun w => by have h0 := parts_any ((nmN (rootN kA (pbN kB)) 3) ++ (sealN (outN kA (pbN kB)) (nonN 3 3) [] (bodyN ([104, 105])))) (app_lt (nmN_ok _ 3).2 (sealN_lt _ _ _ (bodyN_lt (lit_lt (by kernel_rfl)) (by decide)))) w; rw [parts_cat (nmN_ok (rootN kA (pbN kB)) 3).1 (by rw [sealN_len]; rfl)] at h0; exact h0) _), (by kernel_rfl), fun bi => ⟨rfl, ((cn_size _ _).trans (List.length_replicate ..)), ((cn_size _ _).trans (nmN_ok (rootN kA (pbN kB)) 3).1), (cn_one _ _), rfl, fun _ _ FF19 MM19 => then_n ?_⟩⟩))
  refine wp_seq (rg_c FF19 MM19 [(0, b_ 6), (1, t_ (.tuple #[sB ([104, 105]), .bool true]))] 16 [] [12] (⟨rfl, (by simp [cn_size, (outN_ok kB (pbN kA)).1, (inN_ok kB (pbN kA)).1, (rootN_ok kB (pbN kA)).1]), (callP_of en_hear (hear_nil (outN kB (pbN kA)) (inN kB (pbN kA)) (rootN kB (pbN kA)) [104, 105] (sealN (outN kA (pbN kB)) (nonN 3 3) [] (bodyN [104, 105])) 3 ⟨(outN_ok kB (pbN kA)).1, (outN_ok kB (pbN kA)).2⟩ ⟨(inN_ok kB (pbN kA)).1, (inN_ok kB (pbN kA)).2⟩ ⟨(rootN_ok kB (pbN kA)).1, (rootN_ok kB (pbN kA)).2⟩ (by decide) (lit_lt (by kernel_rfl)) (by decide) (sealN_lt _ _ _ (bodyN_lt (lit_lt (by kernel_rfl)) (by decide))) (by rw [sealN_len]; decide) (by rw [← wk_oi]; exact seal_opens _ _ [] _)) _), fun _ _ FF20 MM20 => then_n ?_⟩))
  refine wp_seq (rg_dc 65 FF20 MM20 [(1, w_ 2), (2, w_ 2), (3, w_ 2), (3, l_ 7 (.agg (cn .u8 (outN kA (pbN kB))))), (1, l_ 6 (.agg (cn .u8 (inN kB (pbN kA))))), (0, f_ (.bool true)), (3, l_ 7 (.agg (cn .u8 (inN kA (pbN kB))))), (1, l_ 6 (.agg (cn .u8 (outN kB (pbN kA))))), (0, f_ (.bool true)), (3, l_ 7 (.agg (cn .u8 (rootN kA (pbN kB))))), (1, l_ 6 (.agg (cn .u8 (rootN kB (pbN kA))))), (0, f_ (.bool true)), (3, l_ 7 (.agg (cn .u8 (outN kA (pbN kB))))), (1, l_ 7 (.agg (cn .u8 (inN kA (pbN kB))))), (0, f_ (.bool true)), (3, w_ 2), (5, b_ 0), (1, l_ 6 (.agg (cn .u8 (rootN kB (pbN kA))))), (0, u_ 1 (.agg (cn .u8 (nmN (rootN kB (pbN kA)) 3)))), (0, f_ (.bool true)), (3, w_ 2), (5, t_ (sB ((List.replicate 16 0) ++ (sealN (List.replicate 32 0) (nonN 3 1) [] (List.replicate 20 0))))), (0, t_ (iN (((List.replicate 16 0) ++ (sealN (List.replicate 32 0) (nonN 3 1) [] (List.replicate 20 0))).length))), (0, w_ 2)] [] 6 [11] [4] (⟨rfl, rfl, rfl, rfl, (part_l (part_whole _)), ((cn_size _ _).trans (outN_ok kA (pbN kB)).1), rfl, (part_r 0 ((cn_size _ _).trans (outN_ok kB (pbN kA)).1) rfl (part_l (part_whole _))), ((cn_size _ _).trans (inN_ok kB (pbN kA)).1), (eqA_ok (t := 23) (t' := 23) (e := 5) (m := 32) (k := .u8) (x := (.tmp 68)) (y := (.tmp 70)) (by kernel_rfl) Tryz.underlying23 Tryz.underlying5 (by kernel_rfl) (by kernel_rfl) (by kernel_rfl) rfl rfl (outN_ok kA (pbN kB)).1 (inN_ok kB (pbN kA)).1 (decide_eq_true wk_oi)), rfl, (part_r 0 ((cn_size _ _).trans (outN_ok kA (pbN kB)).1) rfl (part_l (part_whole _))), ((cn_size _ _).trans (inN_ok kA (pbN kB)).1), rfl, (part_l (part_whole _)), ((cn_size _ _).trans (outN_ok kB (pbN kA)).1), (eqA_ok (t := 23) (t' := 23) (e := 5) (m := 32) (k := .u8) (x := (.tmp 75)) (y := (.tmp 77)) (by kernel_rfl) Tryz.underlying23 Tryz.underlying5 (by kernel_rfl) (by kernel_rfl) (by kernel_rfl) rfl rfl (inN_ok kA (pbN kB)).1 (outN_ok kB (pbN kA)).1 (decide_eq_true wk_io)), rfl, (part_r 32 ((cn_size _ _).trans (outN_ok kA (pbN kB)).1) rfl (part_r 0 ((cn_size _ _).trans (inN_ok kA (pbN kB)).1) rfl (part_whole _))), ((cn_size _ _).trans (rootN_ok kA (pbN kB)).1), rfl, (part_r 32 ((cn_size _ _).trans (outN_ok kB (pbN kA)).1) rfl (part_r 0 ((cn_size _ _).trans (inN_ok kB (pbN kA)).1) rfl (part_whole _))), ((cn_size _ _).trans (rootN_ok kB (pbN kA)).1), (eqA_ok (t := 23) (t' := 23) (e := 5) (m := 32) (k := .u8) (x := (.tmp 82)) (y := (.tmp 84)) (by kernel_rfl) Tryz.underlying23 Tryz.underlying5 (by kernel_rfl) (by kernel_rfl) (by kernel_rfl) rfl rfl (rootN_ok kA (pbN kB)).1 (rootN_ok kB (pbN kA)).1 (decide_eq_true wk_rr)), rfl, (part_l (part_whole _)), ((cn_size _ _).trans (outN_ok kA (pbN kB)).1), rfl, (part_r 0 ((cn_size _ _).trans (outN_ok kA (pbN kB)).1) rfl (part_l (part_whole _))), ((cn_size _ _).trans (inN_ok kA (pbN kB)).1), (neqA_ok (t := 23) (t' := 23) (e := 5) (m := 32) (k := .u8) (x := (.tmp 89)) (y := (.tmp 91)) (by kernel_rfl) Tryz.underlying23 Tryz.underlying5 (by kernel_rfl) (by kernel_rfl) (by kernel_rfl) rfl rfl (outN_ok kA (pbN kB)).1 (inN_ok kA (pbN kB)).1 (decide_eq_true wk_ne)), rfl, rfl, ((cn_size _ _).trans (nmN_ok (rootN kA (pbN kB)) 3).1), rfl, (part_r 32 ((cn_size _ _).trans (outN_ok kB (pbN kA)).1) rfl (part_r 0 ((cn_size _ _).trans (inN_ok kB (pbN kA)).1) rfl (part_whole _))), ((cn_size _ _).trans (rootN_ok kB (pbN kA)).1), ⟨en_tname, fun w Hw => tname_any Tg fg (rootN kB (pbN kA)) 3 ⟨(rootN_ok kB (pbN kA)).1, (rootN_ok kB (pbN kA)).2⟩ (by decide) w (Hw 10 _ rfl)⟩, (eqA_ok (t := 32) (t' := 32) (e := 5) (m := 16) (k := .u8) (x := (.tmp 102)) (y := (.tmp 105)) (by kernel_rfl) Tryz.underlying32 Tryz.underlying5 (by kernel_rfl) (by kernel_rfl) (by kernel_rfl) rfl rfl (nmN_ok (rootN kA (pbN kB)) 3).1 (nmN_ok (rootN kB (pbN kA)) 3).1 (decide_eq_true (congrArg (nmN · 3) wk_rr))), rfl, (callP_of en_idle (idle_nil 1 (by decide)) _), (vI ((bs_size _).trans (by rw [List.length_append, sealN_len, List.length_replicate, List.length_replicate]))), rfl, fun _ _ FF21 MM21 => then_n ?_⟩))
  refine wp_ret ?_
  repeat first | refine then_ret ?_ | refine inb_ret ?_
  exact (ret_fr FF21 0 Tryz.results9 rfl ⟨rfl, MM21.below1 10 rfl hg⟩)
end Go.Proofs.YtdjpacgjhcidpabGreatDoor
namespace Go.Proofs.YtdjpacgjhcidpabGreatDoor
open Go.RowKit
def IsP (n : Nat) : Prop := 1 < n ∧ ∀ d, d ∣ n → d = 1 ∨ d = n
theorem isP_small (n B : Nat) (h1 : 1 < n) (hB : n < B * B) (h : ((List.range B).all fun d => decide (d < 2) || n % d != 0) = true) : IsP n := by
  refine ⟨h1, fun d hd => ?_⟩
  have no : ∀ d, 2 ≤ d → d < B → ¬ d ∣ n := fun d h2 h3 hdn => by
    have := List.all_eq_true.1 h d (List.mem_range.2 h3)
    simp only [Bool.or_eq_true, decide_eq_true_eq, bne_iff_ne, ne_eq] at this
    rcases this with h | h
    · omega
    · exact h (Nat.mod_eq_zero_of_dvd hdn)
  obtain ⟨e, he⟩ := hd
  by_cases hd1 : d = 1
  · exact Or.inl hd1
  · right
    by_cases he1 : e = 1
    · rw [he, he1, Nat.mul_one]
    · exfalso
      have hd0 : d ≠ 0 := fun h0 => by rw [h0, Nat.zero_mul] at he; omega
      have he0 : e ≠ 0 := fun h0 => by rw [h0, Nat.mul_zero] at he; omega
      have d1 : B ≤ d := by
        rcases Nat.lt_or_ge d B with h' | h'
        · exact (no d (by omega) h' ⟨e, he⟩).elim
        · exact h'
      have e1 : B ≤ e := by
        rcases Nat.lt_or_ge e B with h' | h'
        · exact (no e (by omega) h' ⟨d, by rw [he, Nat.mul_comm]⟩).elim
        · exact h'
      have := Nat.mul_le_mul d1 e1
      omega
/-- A power modulo n, a bit a step. -/
def pm (n : Nat) : Nat → Nat → Nat → Nat
  | 0, _, _ => 1 % n
  | f + 1, g, e => if e % 2 = 1 then g * pm n f (g * g % n) (e / 2) % n else pm n f (g * g % n) (e / 2)
theorem pow_mod_mod (a k n : Nat) : (a % n) ^ k % n = a ^ k % n := (Nat.pow_mod a k n).symm
theorem pm_eq (n : Nat) : ∀ (f g e : Nat), e < 2 ^ f → pm n f g e = g ^ e % n
  | 0, g, e, h => by
    have : e = 0 := by simpa using h
    subst this
    simp [pm]
  | f + 1, g, e, h => by
    have ih := pm_eq n f (g * g % n) (e / 2) (by rw [Nat.pow_succ] at h; omega)
    unfold pm
    rw [ih, pow_mod_mod]
    have e2 : (g * g) ^ (e / 2) = g ^ (2 * (e / 2)) := by rw [Nat.pow_mul, Nat.pow_two]
    rw [e2]
    split
    · rename_i h1
      rw [Nat.mul_mod_mod]
      have : e = 2 * (e / 2) + 1 := by omega
      conv => rhs; rw [this, Nat.pow_succ, Nat.mul_comm]
    · rename_i h1
      have : e = 2 * (e / 2) := by omega
      conv => rhs; rw [this]
theorem pig : ∀ (N : Nat) (f : Nat → Nat), (∀ i, i < N → f i < N) → (∀ i j, i < N → j < N → f i = f j → i = j) → ∀ y, y < N → ∃ i, i < N ∧ f i = y
  | 0, _, _, _, y, hy => by omega
  | N + 1, f, hf, hi, y, hy => by
    have h1 : ∀ i, i < N → (if f i = N then f N else f i) < N := fun i hiN => by
      have a := hf i (by omega)
      have b := hf N (by omega)
      split
      · rename_i e
        have : f N ≠ N := fun h => by have := hi i N (by omega) (by omega) (by rw [e, h]); omega
        omega
      · omega
    have h2 : ∀ i j, i < N → j < N → (if f i = N then f N else f i) = (if f j = N then f N else f j) → i = j := fun i j hiN hjN e => by
      by_cases ei : f i = N
      · by_cases ej : f j = N
        · exact hi i j (by omega) (by omega) (by rw [ei, ej])
        · rw [if_pos ei, if_neg ej] at e
          have := hi N j (by omega) (by omega) e
          omega
      · by_cases ej : f j = N
        · rw [if_neg ei, if_pos ej] at e
          have := hi i N (by omega) (by omega) e
          omega
        · rw [if_neg ei, if_neg ej] at e
          exact hi i j (by omega) (by omega) e
    have ih := pig N (fun i => if f i = N then f N else f i) h1 h2
    by_cases hya : f N = y
    · exact ⟨N, by omega, hya⟩
    · by_cases hyN : y = N
      · have hlt : f N < N := by have := hf N (by omega); omega
        obtain ⟨i, hiN, e⟩ := ih (f N) hlt
        by_cases ei : f i = N
        · exact ⟨i, by omega, by omega⟩
        · simp only [if_neg ei] at e
          have := hi i N (by omega) (by omega) e
          omega
      · obtain ⟨i, hiN, e⟩ := ih y (by omega)
        by_cases ei : f i = N
        · simp only [if_pos ei] at e
          exact (hya e).elim
        · simp only [if_neg ei] at e
          exact ⟨i, by omega, e⟩
theorem pow_one_mul {n a : Nat} (h1 : 1 < n) (h : a % n = 1) (k : Nat) : a ^ k % n = 1 := by
  rw [← pow_mod_mod, h, Nat.one_pow, Nat.mod_eq_of_lt h1]
theorem pow_gcd {n g : Nat} (h1 : 1 < n) (a b : Nat) : g ^ a % n = 1 → g ^ b % n = 1 → g ^ (Nat.gcd a b) % n = 1 := by
  induction a, b using Nat.gcd.induction with
  | H0 b => intro _ h; simpa using h
  | H1 a b _ ih =>
    intro ha hb
    rw [Nat.gcd_rec]
    refine ih ?_ ha
    have e : b = a * (b / a) + b % a := (Nat.div_add_mod b a).symm
    rw [e, Nat.pow_add, Nat.mul_mod, Nat.pow_mul, pow_one_mul h1 ha, Nat.one_mul, Nat.mod_mod] at hb
    exact hb
def prodOf : List (Nat × Nat) → Nat
  | [] => 1
  | x :: l => x.1 ^ x.2 * prodOf l
theorem coprime_of {q m : Nat} (hq : IsP q) (h : ¬ q ∣ m) : Nat.Coprime m q := by
  rcases hq.2 _ (Nat.gcd_dvd_right m q) with e | e
  · exact e
  · exact (h (e ▸ Nat.gcd_dvd_left m q)).elim
theorem coprime_prod {m : Nat} : ∀ fs : List (Nat × Nat), (∀ x ∈ fs, Nat.Coprime m x.1) → Nat.Coprime m (prodOf fs)
  | [], _ => Nat.coprime_one_right m
  | x :: l, h => Nat.Coprime.mul_right (Nat.Coprime.pow_right _ (h x (by simp))) (coprime_prod l fun y hy => h y (by simp [hy]))
/-- Lucas: with such a g, n is a prime, and each number below it, to the power of n - 1, is 1. -/
theorem lucas (n g : Nat) (hn : 2 < n) (fs : List (Nat × Nat)) (hprod : n - 1 = prodOf fs) (hp : ∀ x ∈ fs, IsP x.1) (h1 : g ^ (n - 1) % n = 1) (hq : ∀ x ∈ fs, g ^ ((n - 1) / x.1) % n ≠ 1) :
    IsP n ∧ ∀ x, 0 < x → x < n → x ^ (n - 1) % n = 1 := by
  have c1 : ∀ k, 0 < k → k < n - 1 → g ^ k % n ≠ 1 := fun k k0 k1 hk => by
    have hd := pow_gcd (by omega) k (n - 1) hk h1
    obtain ⟨m, hm⟩ := Nat.gcd_dvd_right k (n - 1)
    have hle : Nat.gcd k (n - 1) ≤ k := Nat.gcd_le_left _ k0
    generalize Nat.gcd k (n - 1) = d at *
    have hm1 : m ≠ 1 := fun h => by rw [h, Nat.mul_one] at hm; omega
    have cop : Nat.Coprime m (n - 1) := by
      rw [hprod]
      refine coprime_prod fs fun x hx => coprime_of (hp x hx) fun ⟨j, hj⟩ => hq x hx ?_
      have hx0 : 0 < x.1 := Nat.lt_trans Nat.zero_lt_one (hp x hx).1
      have : (n - 1) / x.1 = d * j := by
        rw [hm, hj, ← Nat.mul_assoc, Nat.mul_comm d x.1, Nat.mul_assoc, Nat.mul_div_cancel_left _ hx0]
      rw [this, Nat.pow_mul]
      exact pow_one_mul (by omega) hd j
    have : Nat.gcd m (n - 1) = m := Nat.gcd_eq_left ⟨d, by rw [hm, Nat.mul_comm]⟩
    exact hm1 (this.symm.trans cop)
  have inv : ∀ i, i ≤ n - 1 → g ^ i % n * (g ^ (n - 1 - i) % n) % n = 1 := fun i hi => by
    rw [← Nat.mul_mod, ← Nat.pow_add, show i + (n - 1 - i) = n - 1 by omega, h1]
  have pos : ∀ i, i ≤ n - 1 → 0 < g ^ i % n := fun i hi => by
    rcases Nat.eq_zero_or_pos (g ^ i % n) with h | h
    · have := inv i hi; rw [h, Nat.zero_mul, Nat.zero_mod] at this; omega
    · exact h
  have inj : ∀ i j, i < j → j < n - 1 → g ^ i % n ≠ g ^ j % n := fun i j hij hj e => by
    have a := inv i (by omega)
    rw [e, ← Nat.mul_mod, ← Nat.pow_add, show j + (n - 1 - i) = (n - 1) + (j - i) by omega, Nat.pow_add, Nat.mul_mod, h1, Nat.one_mul, Nat.mod_mod] at a
    exact c1 (j - i) (by omega) (by omega) a
  have sur : ∀ x, 0 < x → x < n → ∃ i, i < n - 1 ∧ g ^ i % n = x := fun x h0 hx => by
    obtain ⟨i, hi, e⟩ := pig (n - 1) (fun i => g ^ i % n - 1) (fun i hi => by
        have := Nat.mod_lt (g ^ i) (show 0 < n by omega)
        have := pos i (by omega)
        omega) (fun i j hi hj e => by
        have p1 := pos i (by omega)
        have p2 := pos j (by omega)
        have e' : g ^ i % n = g ^ j % n := by
          have : g ^ i % n - 1 = g ^ j % n - 1 := e
          omega
        rcases Nat.lt_trichotomy i j with h | h | h
        · exact (inj i j h hj e').elim
        · exact h
        · exact (inj j i h hi e'.symm).elim) (x - 1) (by omega)
    have := pos i (by omega)
    have e' : g ^ i % n - 1 = x - 1 := e
    exact ⟨i, hi, by omega⟩
  refine ⟨⟨by omega, fun d hd => ?_⟩, fun x h0 hx => ?_⟩
  · by_cases hdn : d = n
    · exact Or.inr hdn
    · left
      have hle := Nat.le_of_dvd (by omega) hd
      have hd0 : 0 < d := Nat.pos_of_dvd_of_pos hd (by omega)
      obtain ⟨i, hi, e⟩ := sur d hd0 (by omega)
      have a := inv i (by omega)
      rw [e] at a
      have hdv : d ∣ d * (g ^ (n - 1 - i) % n) % n := (Nat.dvd_mod_iff hd).2 ⟨_, rfl⟩
      rw [a] at hdv
      exact Nat.dvd_one.1 hdv
  · obtain ⟨i, hi, e⟩ := sur x h0 hx
    rw [← e, pow_mod_mod, ← Nat.pow_mul, Nat.mul_comm, Nat.pow_mul]
    exact pow_one_mul (by omega) h1 i
/-- The same, asked by reckoning. -/
theorem lucas_pm (n g f : Nat) (hn : 2 < n) (hf : n < 2 ^ f) (fs : List (Nat × Nat)) (hprod : n - 1 = prodOf fs) (hp : ∀ x ∈ fs, IsP x.1) (h1 : pm n f g (n - 1) = 1) (hq : (fs.all fun x => pm n f g ((n - 1) / x.1) != 1) = true) :
    IsP n ∧ ∀ x, 0 < x → x < n → x ^ (n - 1) % n = 1 := by
  refine lucas n g hn fs hprod hp (by rw [← pm_eq n f g (n - 1) (by omega)]; exact h1) fun x hx => ?_
  have := List.all_eq_true.1 hq x hx
  rw [← pm_eq n f g ((n - 1) / x.1) (Nat.lt_of_le_of_lt (Nat.div_le_self _ _) (by omega))]
  simpa using this
theorem prime2 : IsP 2 := isP_small 2 2 (by decide) (by decide) (by decide +kernel)
theorem prime3 : IsP 3 := isP_small 3 2 (by decide) (by decide) (by decide +kernel)
theorem prime5 : IsP 5 := isP_small 5 3 (by decide) (by decide) (by decide +kernel)
theorem prime7 : IsP 7 := isP_small 7 3 (by decide) (by decide) (by decide +kernel)
theorem prime13 : IsP 13 := isP_small 13 4 (by decide) (by decide) (by decide +kernel)
theorem prime19 : IsP 19 := isP_small 19 5 (by decide) (by decide) (by decide +kernel)
theorem prime23 : IsP 23 := isP_small 23 5 (by decide) (by decide) (by decide +kernel)
theorem prime31 : IsP 31 := isP_small 31 6 (by decide) (by decide) (by decide +kernel)
theorem prime41 : IsP 41 := isP_small 41 7 (by decide) (by decide) (by decide +kernel)
theorem prime43 : IsP 43 := isP_small 43 7 (by decide) (by decide) (by decide +kernel)
theorem prime47 : IsP 47 := isP_small 47 7 (by decide) (by decide) (by decide +kernel)
theorem prime103 : IsP 103 := isP_small 103 11 (by decide) (by decide) (by decide +kernel)
theorem prime107 : IsP 107 := isP_small 107 11 (by decide) (by decide) (by decide +kernel)
theorem prime127 : IsP 127 := isP_small 127 12 (by decide) (by decide) (by decide +kernel)
theorem prime223 : IsP 223 := isP_small 223 15 (by decide) (by decide) (by decide +kernel)
theorem prime353 : IsP 353 := isP_small 353 19 (by decide) (by decide) (by decide +kernel)
theorem prime991 : IsP 991 := isP_small 991 32 (by decide) (by decide) (by decide +kernel)
theorem prime2437 : IsP 2437 := isP_small 2437 50 (by decide) (by decide) (by decide +kernel)
theorem prime4153 : IsP 4153 := isP_small 4153 65 (by decide) (by decide) (by decide +kernel)
theorem prime57467 : IsP 57467 := isP_small 57467 240 (by decide) (by decide) (by decide +kernel)
theorem prime65147 : IsP 65147 := isP_small 65147 256 (by decide) (by decide) (by decide +kernel)
theorem prime75707 : IsP 75707 := isP_small 75707 276 (by decide) (by decide) (by decide +kernel)
theorem prime132049 : IsP 132049 := isP_small 132049 364 (by decide) (by decide) (by decide +kernel)
theorem prime430751 : IsP 430751 := isP_small 430751 657 (by decide) (by decide) (by decide +kernel)
theorem prime569003 : IsP 569003 := isP_small 569003 755 (by decide) (by decide) (by decide +kernel)
theorem prime1923133 : IsP 1923133 := isP_small 1923133 1387 (by decide) (by decide) (by decide +kernel)
theorem prime31757755568855353 : IsP 31757755568855353 :=
  (lucas_pm 31757755568855353 10 56 (by decide +kernel) (by decide +kernel) [(2, 3), (3, 1), (31, 1), (107, 1), (223, 1), (4153, 1), (430751, 1)] (by decide +kernel) (fun x hx => by
    simp only [List.mem_cons, List.not_mem_nil, or_false] at hx
    rcases hx with rfl | rfl | rfl | rfl | rfl | rfl | rfl
    all_goals first | exact prime2 | exact prime3 | exact prime31 | exact prime107 | exact prime223 | exact prime4153 | exact prime430751) (by decide +kernel) (by decide +kernel)).1
theorem prime2773320623 : IsP 2773320623 :=
  (lucas_pm 2773320623 5 33 (by decide +kernel) (by decide +kernel) [(2, 1), (2437, 1), (569003, 1)] (by decide +kernel) (fun x hx => by
    simp only [List.mem_cons, List.not_mem_nil, or_false] at hx
    rcases hx with rfl | rfl | rfl
    all_goals first | exact prime2 | exact prime2437 | exact prime569003) (by decide +kernel) (by decide +kernel)).1
theorem prime72106336199 : IsP 72106336199 :=
  (lucas_pm 72106336199 7 38 (by decide +kernel) (by decide +kernel) [(2, 1), (13, 1), (2773320623, 1)] (by decide +kernel) (fun x hx => by
    simp only [List.mem_cons, List.not_mem_nil, or_false] at hx
    rcases hx with rfl | rfl | rfl
    all_goals first | exact prime2 | exact prime13 | exact prime2773320623) (by decide +kernel) (by decide +kernel)).1
theorem prime8574133 : IsP 8574133 :=
  (lucas_pm 8574133 2 25 (by decide +kernel) (by decide +kernel) [(2, 2), (3, 1), (7, 1), (103, 1), (991, 1)] (by decide +kernel) (fun x hx => by
    simp only [List.mem_cons, List.not_mem_nil, or_false] at hx
    rcases hx with rfl | rfl | rfl | rfl | rfl
    all_goals first | exact prime2 | exact prime3 | exact prime7 | exact prime103 | exact prime991) (by decide +kernel) (by decide +kernel)).1
theorem prime1919519569386763 : IsP 1919519569386763 :=
  (lucas_pm 1919519569386763 2 52 (by decide +kernel) (by decide +kernel) [(2, 1), (3, 1), (7, 1), (19, 1), (47, 2), (127, 1), (8574133, 1)] (by decide +kernel) (fun x hx => by
    simp only [List.mem_cons, List.not_mem_nil, or_false] at hx
    rcases hx with rfl | rfl | rfl | rfl | rfl | rfl | rfl
    all_goals first | exact prime2 | exact prime3 | exact prime7 | exact prime19 | exact prime47 | exact prime127 | exact prime8574133) (by decide +kernel) (by decide +kernel)).1
theorem prime75445702479781427272750846543864801 : IsP 75445702479781427272750846543864801 :=
  (lucas_pm 75445702479781427272750846543864801 7 117 (by decide +kernel) (by decide +kernel) [(2, 5), (3, 2), (5, 2), (75707, 1), (72106336199, 1), (1919519569386763, 1)] (by decide +kernel) (fun x hx => by
    simp only [List.mem_cons, List.not_mem_nil, or_false] at hx
    rcases hx with rfl | rfl | rfl | rfl | rfl | rfl
    all_goals first | exact prime2 | exact prime3 | exact prime5 | exact prime75707 | exact prime72106336199 | exact prime1919519569386763) (by decide +kernel) (by decide +kernel)).1
theorem prime74058212732561358302231226437062788676166966415465897661863160754340907 : IsP 74058212732561358302231226437062788676166966415465897661863160754340907 :=
  (lucas_pm 74058212732561358302231226437062788676166966415465897661863160754340907 2 237 (by decide +kernel) (by decide +kernel) [(2, 1), (3, 1), (353, 1), (57467, 1), (132049, 1), (1923133, 1), (31757755568855353, 1), (75445702479781427272750846543864801, 1)] (by decide +kernel) (fun x hx => by
    simp only [List.mem_cons, List.not_mem_nil, or_false] at hx
    rcases hx with rfl | rfl | rfl | rfl | rfl | rfl | rfl | rfl
    all_goals first | exact prime2 | exact prime3 | exact prime353 | exact prime57467 | exact prime132049 | exact prime1923133 | exact prime31757755568855353 | exact prime75445702479781427272750846543864801) (by decide +kernel) (by decide +kernel)).1
theorem pN_lucas : IsP pN ∧ ∀ x, 0 < x → x < pN → x ^ (pN - 1) % pN = 1 :=
  (lucas_pm pN 2 256 (by decide +kernel) (by decide +kernel) [(2, 2), (3, 1), (65147, 1), (74058212732561358302231226437062788676166966415465897661863160754340907, 1)] (by decide +kernel) (fun x hx => by
    simp only [List.mem_cons, List.not_mem_nil, or_false] at hx
    rcases hx with rfl | rfl | rfl | rfl
    all_goals first | exact prime2 | exact prime3 | exact prime65147 | exact prime74058212732561358302231226437062788676166966415465897661863160754340907) (by decide +kernel) (by decide +kernel))
end Go.Proofs.YtdjpacgjhcidpabGreatDoor
namespace Go.Proofs.YtdjpacgjhcidpabGreatDoor
open Go.RowKit
def eTo : Nat → Nat
  | 0 => 0
  | j + 1 => if j = 252 ∨ j = 250 then 2 * eTo j else 2 * eTo j + 1
theorem eTo_all : eTo 255 = pN - 2 := by decide +kernel
theorem invTo_pow (x j : Nat) : invTo x j = x ^ eTo j % pN := by
  induction j with
  | zero => show 1 = x ^ 0 % pN; rw [Nat.pow_zero]; decide
  | succ j ih =>
    unfold invTo eTo
    rw [ih, ← Nat.mul_mod, ← Nat.pow_add, ← Nat.two_mul]
    split
    · rfl
    · rw [Nat.pow_succ, Nat.mod_mul_mod]
theorem inv_pow (x : Nat) : invTo x 255 = x ^ (pN - 2) % pN := by rw [invTo_pow, eTo_all]
theorem inv_zero : invTo 0 255 = 0 := by decide +kernel
theorem inv_mul (x : Nat) (h0 : 0 < x) (hx : x < pN) : x * invTo x 255 % pN = 1 := by
  have h := pN_lucas.2 x h0 hx
  have e : pN - 1 = (pN - 2) + 1 := by decide
  rw [e, Nat.pow_succ, Nat.mul_comm] at h
  rw [inv_pow, Nat.mul_mod_mod]
  exact h
end Go.Proofs.YtdjpacgjhcidpabGreatDoor
namespace Go.Proofs.YtdjpacgjhcidpabGreatDoor
open Go.RowKit
/-- The prime goes into a. -/
def Z (a : Int) : Prop := ((pN : Nat) : Int) ∣ a
theorem Z.add {a b : Int} (h : Z a) (k : Z b) : Z (a + b) := Int.dvd_add h k
theorem Z.sub {a b : Int} (h : Z a) (k : Z b) : Z (a - b) := Int.dvd_sub h k
theorem Z.mul {a : Int} (h : Z a) (b : Int) : Z (a * b) := Int.dvd_mul_of_dvd_left h
theorem Z.mul' {a : Int} (b : Int) (h : Z a) : Z (b * a) := Int.dvd_mul_of_dvd_right h
theorem Z.neg {a : Int} (h : Z a) : Z (-a) := Int.dvd_neg.2 h
theorem Z.of_eq {a b : Int} (h : a = b) (k : Z b) : Z a := h ▸ k
theorem Z_zero : Z 0 := Int.dvd_zero _
theorem Z_nat (n : Nat) : Z (n : Int) ↔ n % pN = 0 := by
  unfold Z
  rw [Int.natCast_dvd_natCast]
  exact Nat.dvd_iff_mod_eq_zero
theorem Z_prime {a b : Int} (h : Z (a * b)) : Z a ∨ Z b := by
  unfold Z at *
  rw [Int.ofNat_dvd_left, Int.natAbs_mul] at h
  rw [Int.ofNat_dvd_left, Int.ofNat_dvd_left]
  by_cases ha : pN ∣ a.natAbs
  · exact .inl ha
  · exact .inr ((Nat.Coprime.symm (coprime_of pN_lucas.1 ha)).dvd_of_dvd_mul_left h)
theorem Z_sub_comm {a b : Int} (h : Z (a - b)) : Z (b - a) := by have := h.neg; rwa [Int.neg_sub] at this
theorem Z_trans {a b c : Int} (h : Z (a - b)) (k : Z (b - c)) : Z (a - c) := Z.of_eq (by omega) (h.add k)
theorem Z_mul_congr {a b c d : Int} (h : Z (a - b)) (k : Z (c - d)) : Z (a * c - b * d) := Z.of_eq (b := (a - b) * c + b * (c - d)) (by grind) ((h.mul c).add (Z.mul' b k))
theorem Z_add_congr {a b c d : Int} (h : Z (a - b)) (k : Z (c - d)) : Z ((a + c) - (b + d)) := Z.of_eq (by omega) (h.add k)
theorem Z_sub_congr {a b c d : Int} (h : Z (a - b)) (k : Z (c - d)) : Z ((a - c) - (b - d)) := Z.of_eq (by omega) (h.sub k)
theorem Z_iff {a b : Int} (h : Z (a - b)) : Z a ↔ Z b := ⟨fun k => Z.of_eq (b := a - (a - b)) (by omega) (k.sub h), fun k => Z.of_eq (b := (a - b) + b) (by omega) (h.add k)⟩
theorem Z_mod (n : Nat) : Z (((n % pN : Nat) : Int) - (n : Int)) := by
  have h := Nat.div_add_mod n pN
  refine ⟨-((n / pN : Nat) : Int), ?_⟩
  have h' : ((pN : Nat) : Int) * ((n / pN : Nat) : Int) + ((n % pN : Nat) : Int) = (n : Int) := by rw [← Int.natCast_mul, ← Int.natCast_add, h]
  rw [Int.mul_neg]
  generalize ((pN : Nat) : Int) * ((n / pN : Nat) : Int) = q at *
  omega
theorem Z_m (x y : Nat) : Z ((mN x y : Int) - (x : Int) * (y : Int)) := by have := Z_mod (x * y); rwa [Int.natCast_mul] at this
theorem Z_a (x y : Nat) : Z ((aN x y : Int) - ((x : Int) + (y : Int))) := by have := Z_mod (x + y); rwa [Int.natCast_add] at this
theorem Z_s (x y : Nat) (hy : y < pN) : Z ((sN x y : Int) - ((x : Int) - (y : Int))) := by
  have h := Z_mod (x + (pN - y))
  rw [Int.natCast_add, Int.natCast_sub (Nat.le_of_lt hy)] at h
  exact Z.of_eq (b := (((x + (pN - y)) % pN : Nat) : Int) - ((x : Int) + ((pN : Nat) - (y : Int))) + ((pN : Nat) : Int)) (by unfold sN; omega) (h.add (Int.dvd_refl _))
theorem step_x2 (u : Nat) (l : Lad) (h : l.ok) : Z (((l.step u).x2 : Int) - ((l.x2 : Int) + l.z2) * ((l.x2 : Int) + l.z2) * (((l.x2 : Int) - l.z2) * ((l.x2 : Int) - l.z2))) :=
  Z_trans (Z_m _ _) (Z_mul_congr (Z_trans (Z_m _ _) (Z_mul_congr (Z_a _ _) (Z_a _ _))) (Z_trans (Z_m _ _) (Z_mul_congr (Z_s _ _ h.2.1) (Z_s _ _ h.2.1))))
theorem Z_AA (l : Lad) : Z ((lAA l : Int) - ((l.x2 : Int) + l.z2) * ((l.x2 : Int) + l.z2)) := Z_trans (Z_m _ _) (Z_mul_congr (Z_a _ _) (Z_a _ _))
theorem Z_BB (l : Lad) (h : l.ok) : Z ((lBB l : Int) - ((l.x2 : Int) - l.z2) * ((l.x2 : Int) - l.z2)) := Z_trans (Z_m _ _) (Z_mul_congr (Z_s _ _ h.2.1) (Z_s _ _ h.2.1))
theorem Z_E (l : Lad) (h : l.ok) : Z ((lE l : Int) - 4 * (l.x2 : Int) * l.z2) := by
  refine Z_trans (Z_s _ _ (mN_lt _ _)) ?_
  exact Z.of_eq (by grind) (Z_sub_congr (Z_AA l) (Z_BB l h))
theorem step_z2 (u : Nat) (l : Lad) (h : l.ok) : Z (((l.step u).z2 : Int) - 4 * (l.x2 : Int) * l.z2 * (((l.x2 : Int) + l.z2) * ((l.x2 : Int) + l.z2) + 121665 * (4 * (l.x2 : Int) * l.z2))) :=
  Z_trans (Z_m _ _) (Z_mul_congr (Z_E l h) (Z_trans (Z_a _ _) (Z_add_congr (Z_AA l) (Z_trans (Z_m _ _) (Z_mul_congr (by simpa using Z_zero) (Z_E l h))))))
theorem Z_DA (l : Lad) (h : l.ok) : Z ((lDA l : Int) - ((l.x3 : Int) - l.z3) * ((l.x2 : Int) + l.z2)) := Z_trans (Z_m _ _) (Z_mul_congr (Z_s _ _ h.2.2.2) (Z_a _ _))
theorem Z_CB (l : Lad) (h : l.ok) : Z ((lCB l : Int) - ((l.x3 : Int) + l.z3) * ((l.x2 : Int) - l.z2)) := Z_trans (Z_m _ _) (Z_mul_congr (Z_a _ _) (Z_s _ _ h.2.1))
theorem Z_S (l : Lad) (h : l.ok) : Z ((lS l : Int) - 2 * ((l.x2 : Int) * l.x3 - l.z2 * l.z3)) :=
  Z_trans (Z_a _ _) (Z.of_eq (by grind) (Z_add_congr (Z_DA l h) (Z_CB l h)))
theorem Z_L (l : Lad) (h : l.ok) : Z ((lL l : Int) - 2 * ((l.x3 : Int) * l.z2 - l.z3 * l.x2)) :=
  Z_trans (Z_s _ _ (mN_lt _ _)) (Z.of_eq (by grind) (Z_sub_congr (Z_DA l h) (Z_CB l h)))
theorem step_x3 (u : Nat) (l : Lad) (h : l.ok) : Z (((l.step u).x3 : Int) - 2 * ((l.x2 : Int) * l.x3 - l.z2 * l.z3) * (2 * ((l.x2 : Int) * l.x3 - l.z2 * l.z3))) := Z_trans (Z_m _ _) (Z_mul_congr (Z_S l h) (Z_S l h))
theorem step_z3 (u : Nat) (l : Lad) (h : l.ok) : Z (((l.step u).z3 : Int) - (u : Int) * (2 * ((l.x3 : Int) * l.z2 - l.z3 * l.x2)) * (2 * ((l.x3 : Int) * l.z2 - l.z3 * l.x2))) :=
  Z_trans (Z_m _ _) (Z_mul_congr (Z_trans (Z_m _ _) (Z_mul_congr (by simpa using Z_zero) (Z_L l h))) (Z_L l h))
end Go.Proofs.YtdjpacgjhcidpabGreatDoor
namespace Go.Proofs.YtdjpacgjhcidpabGreatDoor
open Go.RowKit
abbrev Pt := Int × Int
def b0 (P Q : Pt) : Int := (P.1 * Q.2 - P.2 * Q.1) ^ 2
def b1 (A : Int) (P Q : Pt) : Int := 2 * ((P.1 * Q.2 + P.2 * Q.1) * (P.1 * Q.1 + P.2 * Q.2) + 2 * A * P.1 * P.2 * Q.1 * Q.2)
def b2 (P Q : Pt) : Int := (P.1 * Q.1 - P.2 * Q.2) ^ 2
def Fm (A : Int) (P Q T : Pt) : Int := b0 P Q * T.1 ^ 2 - b1 A P Q * (T.1 * T.2) + b2 P Q * T.2 ^ 2
def Ln (S T : Pt) : Int := S.2 * T.1 - S.1 * T.2
def KRes (e0 e1 e2 c0 c1 c2 : Int) : Int := c0 ^ 2 * e2 ^ 2 + c2 ^ 2 * e0 ^ 2 + c1 ^ 2 * e0 * e2 - c0 * c1 * e1 * e2 - c1 * c2 * e0 * e1 + c0 * c2 * (e1 ^ 2 - 2 * e0 * e2)
theorem Fm_left (A : Int) (P Q T : Pt) : Fm A P Q T = Fm A Q P T := by unfold Fm b0 b1 b2; grind
theorem Fm_right (A : Int) (P Q T : Pt) : Fm A P Q T = Fm A P T Q := by unfold Fm b0 b1 b2; grind
theorem Res_raw (A x x' y y' z z' t t' : Int) :
    ((z*t'-z'*t)^2)^2*((x*y-x'*y')^2)^2 + ((z*t-z'*t')^2)^2*((x*y'-x'*y)^2)^2 + (2*((z*t'+z'*t)*(z*t+z'*t') + 2*A*z*z'*t*t'))^2*(x*y'-x'*y)^2*(x*y-x'*y')^2 - (z*t'-z'*t)^2*(2*((z*t'+z'*t)*(z*t+z'*t') + 2*A*z*z'*t*t'))*(2*((x*y'+x'*y)*(x*y+x'*y') + 2*A*x*x'*y*y'))*(x*y-x'*y')^2 - (2*((z*t'+z'*t)*(z*t+z'*t') + 2*A*z*z'*t*t'))*(z*t-z'*t')^2*(x*y'-x'*y)^2*(2*((x*y'+x'*y)*(x*y+x'*y') + 2*A*x*x'*y*y')) + (z*t'-z'*t)^2*(z*t-z'*t')^2*((2*((x*y'+x'*y)*(x*y+x'*y') + 2*A*x*x'*y*y'))^2 - 2*(x*y'-x'*y)^2*(x*y-x'*y')^2) =
    ((x*t'-x'*t)^2)^2*((y*z-y'*z')^2)^2 + ((x*t-x'*t')^2)^2*((y*z'-y'*z)^2)^2 + (2*((x*t'+x'*t)*(x*t+x'*t') + 2*A*x*x'*t*t'))^2*(y*z'-y'*z)^2*(y*z-y'*z')^2 - (x*t'-x'*t)^2*(2*((x*t'+x'*t)*(x*t+x'*t') + 2*A*x*x'*t*t'))*(2*((y*z'+y'*z)*(y*z+y'*z') + 2*A*y*y'*z*z'))*(y*z-y'*z')^2 - (2*((x*t'+x'*t)*(x*t+x'*t') + 2*A*x*x'*t*t'))*(x*t-x'*t')^2*(y*z'-y'*z)^2*(2*((y*z'+y'*z)*(y*z+y'*z') + 2*A*y*y'*z*z')) + (x*t'-x'*t)^2*(x*t-x'*t')^2*((2*((y*z'+y'*z)*(y*z+y'*z') + 2*A*y*y'*z*z'))^2 - 2*(y*z'-y'*z)^2*(y*z-y'*z')^2) := by
  grind
theorem Res_assoc (A : Int) (P Q R T : Pt) : KRes (b0 P Q) (b1 A P Q) (b2 P Q) (b0 R T) (b1 A R T) (b2 R T) = KRes (b0 Q R) (b1 A Q R) (b2 Q R) (b0 P T) (b1 A P T) (b2 P T) := Res_raw A P.1 P.2 Q.1 Q.2 R.1 R.2 T.1 T.2
theorem Res_split (A : Int) (S D R T : Pt) : KRes (S.2 * D.2) (S.1 * D.2 + S.2 * D.1) (S.1 * D.1) (b0 R T) (b1 A R T) (b2 R T) = Fm A S R T * Fm A D R T := by
  have e1 : Fm A S R T = b0 R T * S.1 ^ 2 - b1 A R T * (S.1 * S.2) + b2 R T * S.2 ^ 2 := by rw [Fm_left, Fm_right]; rfl
  have e2 : Fm A D R T = b0 R T * D.1 ^ 2 - b1 A R T * (D.1 * D.2) + b2 R T * D.2 ^ 2 := by rw [Fm_left, Fm_right]; rfl
  rw [e1, e2]
  generalize b0 R T = c0
  generalize b1 A R T = c1
  generalize b2 R T = c2
  unfold KRes
  grind
theorem Res_scale (l e0 e1 e2 c0 c1 c2 : Int) : KRes (l * e0) (l * e1) (l * e2) c0 c1 c2 = l ^ 2 * KRes e0 e1 e2 c0 c1 c2 := by unfold KRes; grind
theorem Res_congr {e0 e1 e2 f0 f1 f2 : Int} (c0 c1 c2 : Int) (h0 : Z (e0 - f0)) (h1 : Z (e1 - f1)) (h2 : Z (e2 - f2)) : Z (KRes e0 e1 e2 c0 c1 c2 - KRes f0 f1 f2 c0 c1 c2) := by
  refine Z.of_eq (b := (e0 - f0) * (c2 ^ 2 * (e0 + f0) + c1 ^ 2 * e2 - c1 * c2 * e1 - 2 * c0 * c2 * e2) + ((e1 - f1) * (c0 * c2 * (e1 + f1) - c0 * c1 * e2 - c1 * c2 * f0) + (e2 - f2) * (c0 ^ 2 * (e2 + f2) + c1 ^ 2 * f0 - c0 * c1 * f1 - 2 * c0 * c2 * f0))) ?_ ((h0.mul _).add ((h1.mul _).add (h2.mul _)))
  unfold KRes
  grind
def NZ (P : Pt) : Prop := ¬ (Z P.1 ∧ Z P.2)
/-- S and D are the sum and the difference of P and Q. -/
def Split (A : Int) (P Q S D : Pt) : Prop := ∃ l m : Int, ¬ Z l ∧ ¬ Z m ∧ Z (l * b0 P Q - m * (S.2 * D.2)) ∧ Z (l * b1 A P Q - m * (S.1 * D.2 + S.2 * D.1)) ∧ Z (l * b2 P Q - m * (S.1 * D.1))
theorem nz_mul {a b : Int} (h : ¬ Z a) (k : ¬ Z b) : ¬ Z (a * b) := fun e => (Z_prime e).elim h k
theorem Split.symm {A : Int} {P Q S D : Pt} (h : Split A P Q S D) : Split A Q P S D := by
  obtain ⟨l, m, hl, hm, h0, h1, h2⟩ := h
  refine ⟨l, m, hl, hm, ?_, ?_, ?_⟩
  · exact Z.of_eq (by unfold b0; grind) h0
  · exact Z.of_eq (by unfold b1; grind) h1
  · exact Z.of_eq (by unfold b2; grind) h2
theorem Split.swap {A : Int} {P Q S D : Pt} (h : Split A P Q S D) : Split A P Q D S := by
  obtain ⟨l, m, hl, hm, h0, h1, h2⟩ := h
  exact ⟨l, m, hl, hm, Z.of_eq (by grind) h0, Z.of_eq (by grind) h1, Z.of_eq (by grind) h2⟩
theorem Split.at {A : Int} {P Q S D : Pt} {l m : Int} (h0 : Z (l * b0 P Q - m * (S.2 * D.2))) (h1 : Z (l * b1 A P Q - m * (S.1 * D.2 + S.2 * D.1))) (h2 : Z (l * b2 P Q - m * (S.1 * D.1))) (T : Pt) : Z (l * Fm A P Q T - m * (Ln S T * Ln D T)) := by
  refine Z.of_eq (b := (l * b0 P Q - m * (S.2 * D.2)) * T.1 ^ 2 - (l * b1 A P Q - m * (S.1 * D.2 + S.2 * D.1)) * (T.1 * T.2) + (l * b2 P Q - m * (S.1 * D.1)) * T.2 ^ 2) ?_ (((h0.mul _).sub (h1.mul _)).add (h2.mul _))
  unfold Fm Ln
  grind
theorem Split.root {A : Int} {P Q S D : Pt} (h : Split A P Q S D) : Z (Fm A P Q S) := by
  obtain ⟨l, m, hl, hm, h0, h1, h2⟩ := h
  have k := Split.at h0 h1 h2 S
  have e : Ln S S = 0 := by unfold Ln; grind
  rw [e, Int.zero_mul, Int.mul_zero, Int.sub_zero] at k
  exact (Z_prime k).resolve_left hl
theorem assocP {A : Int} {P Q R S D U V : Pt} (h : Split A P Q S D) (k : Split A Q R U V) : ∃ a b : Int, ¬ Z a ∧ ¬ Z b ∧ ∀ T, Z (a * (Fm A S R T * Fm A D R T) - b * (Fm A U P T * Fm A V P T)) := by
  obtain ⟨l, m, hl, hm, h0, h1, h2⟩ := h
  obtain ⟨l', m', hl', hm', k0, k1, k2⟩ := k
  refine ⟨l' ^ 2 * m ^ 2, l ^ 2 * m' ^ 2, ?_, ?_, fun T => ?_⟩
  · rw [Int.pow_succ, Int.pow_succ, Int.pow_zero, Int.one_mul, Int.pow_succ, Int.pow_succ, Int.pow_zero, Int.one_mul]; exact nz_mul (nz_mul hl' hl') (nz_mul hm hm)
  · rw [Int.pow_succ, Int.pow_succ, Int.pow_zero, Int.one_mul, Int.pow_succ, Int.pow_succ, Int.pow_zero, Int.one_mul]; exact nz_mul (nz_mul hl hl) (nz_mul hm' hm')
  · have r1 := Res_congr (b0 R T) (b1 A R T) (b2 R T) h0 h1 h2
    have r2 := Res_congr (b0 P T) (b1 A P T) (b2 P T) k0 k1 k2
    rw [Res_scale, Res_scale, Res_split, Res_assoc] at r1
    rw [Res_scale, Res_scale, Res_split] at r2
    generalize KRes (b0 Q R) (b1 A Q R) (b2 Q R) (b0 P T) (b1 A P T) (b2 P T) = r at *
    generalize Fm A S R T * Fm A D R T = f at *
    generalize Fm A U P T * Fm A V P T = g at *
    exact Z.of_eq (b := l ^ 2 * (l' ^ 2 * r - m' ^ 2 * g) - l' ^ 2 * (l ^ 2 * r - m ^ 2 * f)) (by grind) ((Z.mul' _ r2).sub (Z.mul' _ r1))
theorem small_nz (n : Nat) (h0 : 0 < n) (h1 : n < 1000000) : ¬ Z (n : Int) := by
  rw [Z_nat, Nat.mod_eq_of_lt (Nat.lt_trans h1 (by decide))]
  omega
theorem line_bad {P : Pt} (h : NZ P) {i j : Nat} (hi : i < 5) (hj : j < 5) (hij : i ≠ j) (k1 : Z (Ln P ((i : Int), 1))) (k2 : Z (Ln P ((j : Int), 1))) : False := by
  have d : Z (P.2 * ((i : Int) - (j : Int))) := Z.of_eq (b := Ln P ((i : Int), 1) - Ln P ((j : Int), 1)) (by simp only [Ln]; grind) (k1.sub k2)
  have d2 : Z P.2 := by
    rcases Z_prime d with d | d
    · exact d
    · exfalso
      rcases Nat.lt_or_ge i j with h' | h'
      · exact small_nz (j - i) (by omega) (by omega) (Z.of_eq (b := -((i : Int) - j)) (by omega) d.neg)
      · exact small_nz (i - j) (by omega) (by omega) (Z.of_eq (b := (i : Int) - j) (by omega) d)
  refine h ⟨?_, d2⟩
  exact Z.of_eq (b := P.2 * (i : Int) - Ln P ((i : Int), 1)) (by simp only [Ln]; grind) ((d2.mul _).sub k1)
theorem three_left : ∀ a b : Fin 6, ∃ i j k : Fin 5, i ≠ j ∧ j ≠ k ∧ i ≠ k ∧ i.val ≠ a.val ∧ i.val ≠ b.val ∧ j.val ≠ a.val ∧ j.val ≠ b.val ∧ k.val ≠ a.val ∧ k.val ≠ b.val := by decide +kernel
theorem one_bad {P : Pt} (h : NZ P) : ∃ a : Fin 6, ∀ i : Fin 5, Z (Ln P (((i.val : Nat) : Int), 1)) → i.val = a.val := by
  by_cases e : ∃ i : Fin 5, Z (Ln P (((i.val : Nat) : Int), 1))
  · obtain ⟨i, hi⟩ := e
    refine ⟨⟨i.val, by omega⟩, fun j hj => ?_⟩
    by_cases hij : j.val = i.val
    · exact hij
    · exact (line_bad h j.isLt i.isLt hij hj hi).elim
  · exact ⟨⟨5, by decide⟩, fun i hi => (e ⟨i, hi⟩).elim⟩
theorem cancel {n0 n1 n2 : Int} {P Q : Pt} (hP : NZ P) (hQ : NZ Q) (h : ∀ T : Pt, Z ((n0 * T.1 ^ 2 - n1 * (T.1 * T.2) + n2 * T.2 ^ 2) * (Ln P T * Ln Q T))) : Z n0 ∧ Z n1 ∧ Z n2 := by
  obtain ⟨a, ha⟩ := one_bad hP
  obtain ⟨b, hb⟩ := one_bad hQ
  obtain ⟨i, j, k, hij, hjk, hik, ia, ib, ja, jb, ka, kb⟩ := three_left a b
  have good : ∀ i : Fin 5, i.val ≠ a.val → i.val ≠ b.val → Z (n0 * ((i.val : Nat) : Int) ^ 2 - n1 * ((i.val : Nat) : Int) + n2) := fun i h1 h2 => by
    have := h (((i.val : Nat) : Int), 1)
    rcases Z_prime this with t | t
    · exact Z.of_eq (by grind) t
    · rcases Z_prime t with t | t
      · exact (h1 (ha i t)).elim
      · exact (h2 (hb i t)).elim
  have gi := good i ia ib
  have gj := good j ja jb
  have gk := good k ka kb
  have dif : ∀ i j : Fin 5, i ≠ j → ¬ Z (((i.val : Nat) : Int) - ((j.val : Nat) : Int)) := fun i j hij d => by
    have hv : i.val ≠ j.val := fun e => hij (Fin.ext e)
    have := i.isLt
    have := j.isLt
    rcases Nat.lt_or_ge i.val j.val with h' | h'
    · exact small_nz (j.val - i.val) (by omega) (by omega) (Z.of_eq (b := -(((i.val : Nat) : Int) - (j.val : Nat))) (by omega) d.neg)
    · exact small_nz (i.val - j.val) (by omega) (by omega) (Z.of_eq (b := ((i.val : Nat) : Int) - (j.val : Nat)) (by omega) d)
  have dij := dif i j hij
  have dik := dif i k hik
  have djk := dif j k hjk
  generalize ((i.val : Nat) : Int) = x at *
  generalize ((j.val : Nat) : Int) = y at *
  generalize ((k.val : Nat) : Int) = z at *
  have e1 : Z (n0 * (x + y) - n1) := (Z_prime (Z.of_eq (b := (n0 * x ^ 2 - n1 * x + n2) - (n0 * y ^ 2 - n1 * y + n2)) (a := (x - y) * (n0 * (x + y) - n1)) (by grind) (gi.sub gj))).resolve_left dij
  have e2 : Z (n0 * (x + z) - n1) := (Z_prime (Z.of_eq (b := (n0 * x ^ 2 - n1 * x + n2) - (n0 * z ^ 2 - n1 * z + n2)) (a := (x - z) * (n0 * (x + z) - n1)) (by grind) (gi.sub gk))).resolve_left dik
  have z0 : Z n0 := (Z_prime (Z.of_eq (b := (n0 * (x + y) - n1) - (n0 * (x + z) - n1)) (a := (y - z) * n0) (by grind) (e1.sub e2))).resolve_left djk
  have z1 : Z n1 := Z.of_eq (b := n0 * (x + y) - (n0 * (x + y) - n1)) (by grind) ((z0.mul _).sub e1)
  exact ⟨z0, z1, Z.of_eq (b := (n0 * x ^ 2 - n1 * x + n2) - (n0 * x ^ 2 - n1 * x)) (by grind) (gi.sub ((z0.mul _).sub (z1.mul _)))⟩
/-- One more sum, out of four that are known. -/
theorem next_sum {A : Int} {P Q R X1 X2 U V G H J K : Pt} (s1 : Split A P Q X1 X2) (s2 : Split A Q R U V) (h1 : Split A X2 R G H) (h2 : Split A U P J H) (h3 : Split A V P G K) (hG : NZ G) (hH : NZ H) : Split A X1 R J K := by
  obtain ⟨a, b, ha, hb, hab⟩ := assocP s1 s2
  obtain ⟨l1, m1, hl1, hm1, p0, p1, p2⟩ := h1
  obtain ⟨l2, m2, hl2, hm2, q0, q1, q2⟩ := h2
  obtain ⟨l3, m3, hl3, hm3, r0, r1, r2⟩ := h3
  have key := cancel (n0 := a * l2 * l3 * m1 * b0 X1 R - b * l1 * m2 * m3 * (J.2 * K.2)) (n1 := a * l2 * l3 * m1 * b1 A X1 R - b * l1 * m2 * m3 * (J.1 * K.2 + J.2 * K.1)) (n2 := a * l2 * l3 * m1 * b2 X1 R - b * l1 * m2 * m3 * (J.1 * K.1)) hG hH (fun T => by
    have c0 := hab T
    have c1 := Split.at p0 p1 p2 T
    have c2 := Split.at q0 q1 q2 T
    have c3 := Split.at r0 r1 r2 T
    have e : (a * l2 * l3 * m1 * b0 X1 R - b * l1 * m2 * m3 * (J.2 * K.2)) * T.1 ^ 2 - (a * l2 * l3 * m1 * b1 A X1 R - b * l1 * m2 * m3 * (J.1 * K.2 + J.2 * K.1)) * (T.1 * T.2) + (a * l2 * l3 * m1 * b2 X1 R - b * l1 * m2 * m3 * (J.1 * K.1)) * T.2 ^ 2 = a * l2 * l3 * m1 * Fm A X1 R T - b * l1 * m2 * m3 * (Ln J T * Ln K T) := by
      unfold Fm Ln; grind
    rw [e]
    generalize Fm A X1 R T = f at *
    generalize Fm A X2 R T = g at *
    generalize Fm A U P T = fu at *
    generalize Fm A V P T = fv at *
    generalize Ln G T = lg at *
    generalize Ln H T = lh at *
    generalize Ln J T = lj at *
    generalize Ln K T = lk at *
    exact Z.of_eq (b := l1 * l2 * l3 * (a * (f * g) - b * (fu * fv)) - a * l2 * l3 * f * (l1 * g - m1 * (lg * lh)) + (b * l1 * fv * l3 * (l2 * fu - m2 * (lj * lh)) + b * l1 * m2 * (lj * lh) * (l3 * fv - m3 * (lg * lk)))) (by grind) (((Z.mul' _ c0).sub (Z.mul' _ c1)).add ((Z.mul' _ c2).add (Z.mul' _ c3))))
  exact ⟨_, _, nz_mul (nz_mul (nz_mul ha hl2) hl3) hm1, nz_mul (nz_mul (nz_mul hb hl1) hm2) hm3, key.1, key.2.1, key.2.2⟩
end Go.Proofs.YtdjpacgjhcidpabGreatDoor
namespace Go.Proofs.YtdjpacgjhcidpabGreatDoor
open Go.RowKit
def cA : Int := 486662
def dblP (P : Pt) : Pt := ((P.1 ^ 2 - P.2 ^ 2) ^ 2, 4 * P.1 * P.2 * (P.1 ^ 2 + cA * P.1 * P.2 + P.2 ^ 2))
def dadd (u : Int) (P Q : Pt) : Pt := (4 * b2 P Q, 4 * u * b0 P Q)
theorem nz1 : ¬ Z 1 := small_nz 1 (by decide) (by decide)
theorem nz4 : ¬ Z 4 := small_nz 4 (by decide) (by decide)
theorem split_zero (P : Pt) : Split cA P (1, 0) P P := by
  refine ⟨1, 1, nz1, nz1, ?_, ?_, ?_⟩
  · exact Z.of_eq (by simp only [b0]; grind) Z_zero
  · exact Z.of_eq (by simp only [b1]; grind) Z_zero
  · exact Z.of_eq (by simp only [b2]; grind) Z_zero
theorem split_dbl (P : Pt) : Split cA P P (dblP P) (1, 0) := by
  refine ⟨1, 1, nz1, nz1, ?_, ?_, ?_⟩
  · exact Z.of_eq (by simp only [b0, dblP]; grind) Z_zero
  · exact Z.of_eq (by simp only [b1, dblP]; grind) Z_zero
  · exact Z.of_eq (by simp only [b2, dblP]; grind) Z_zero
theorem split_next {P Q : Pt} {u : Int} (hu : ¬ Z u) (hr : Z (Fm cA P Q (u, 1))) : Split cA P Q (dadd u P Q) (u, 1) := by
  refine ⟨4 * u, 1, nz_mul nz4 hu, nz1, ?_, ?_, ?_⟩
  · exact Z.of_eq (by simp only [dadd]; grind) Z_zero
  · refine Z.of_eq (b := -4 * Fm cA P Q (u, 1)) ?_ (Z.mul' _ hr)
    simp only [Fm, dadd]
    generalize b0 P Q = x0
    generalize b1 cA P Q = x1
    generalize b2 P Q = x2
    grind
  · exact Z.of_eq (by simp only [dadd]; grind) Z_zero
theorem Z_sq {a : Int} (h : Z (a ^ 2)) : Z a := (Z_prime (Z.of_eq (by grind) h : Z (a * a))).elim id id
theorem sign_of {x y : Int} (h : Z (x ^ 2 - y ^ 2)) : ∃ e : Int, e * e = 1 ∧ Z (x - e * y) := by
  rcases Z_prime (Z.of_eq (by grind) h : Z ((x - y) * (x + y))) with k | k
  · exact ⟨1, rfl, Z.of_eq (by grind) k⟩
  · exact ⟨-1, rfl, Z.of_eq (by grind) k⟩
theorem nz_A (e : Int) (he : e * e = 1) : ¬ Z (2 * e + cA) := by
  have h : e = 1 ∨ e = -1 := by
    rcases Int.mul_eq_zero.1 (show (e - 1) * (e + 1) = 0 by grind) with k | k
    · exact .inl (by omega)
    · exact .inr (by omega)
  rcases h with rfl | rfl
  · exact small_nz 486664 (by decide) (by decide)
  · exact small_nz 486660 (by decide) (by decide)
theorem nz_dbl {P : Pt} (h : NZ P) : NZ (dblP P) := by
  rintro ⟨h1, h2⟩
  simp only [dblP] at h1 h2
  obtain ⟨e, he, hs⟩ := sign_of (Z_sq h1)
  have k : Z (P.2 ^ 2 * (P.2 ^ 2 * (2 * e + cA))) := by
    refine (Z_prime (a := 4) ?_).resolve_left nz4
    refine Z.of_eq (b := 4 * P.1 * P.2 * (P.1 ^ 2 + cA * P.1 * P.2 + P.2 ^ 2) - (P.1 - e * P.2) * (4 * P.2 * (P.1 ^ 2 + P.1 * (e * P.2) + (e * P.2) ^ 2 + cA * P.2 * (P.1 + e * P.2) + P.2 ^ 2))) ?_ (h2.sub (hs.mul _))
    clear h h1 h2 hs
    generalize P.1 = x
    generalize P.2 = y
    generalize cA = c
    grind
  have z2 : Z P.2 := by
    rcases Z_prime k with k | k
    · exact Z_sq k
    · rcases Z_prime k with k | k
      · exact Z_sq k
      · exact (nz_A e he k).elim
  exact h ⟨Z.of_eq (b := (P.1 - e * P.2) + e * P.2) (by omega) (hs.add (Z.mul' _ z2)), z2⟩
theorem nz_dadd {P Q : Pt} {u : Int} (hu : ¬ Z u) (hP : NZ P) (hQ : NZ Q) (hr : Z (Fm cA P Q (u, 1))) : NZ (dadd u P Q) := by
  rintro ⟨h1, h2⟩
  simp only [dadd] at h1 h2
  have g2 : Z (b2 P Q) := (Z_prime h1).resolve_left nz4
  have g0 : Z (b0 P Q) := (Z_prime h2).resolve_left (nz_mul nz4 hu)
  have g1 : Z (b1 cA P Q) := by
    refine (Z_prime (a := u) ?_).resolve_left hu
    refine Z.of_eq (b := b0 P Q * u ^ 2 + b2 P Q - Fm cA P Q (u, 1)) ?_ (((g0.mul _).add g2).sub hr)
    simp only [Fm]
    grind
  have s2 : Z (P.1 * Q.1 - P.2 * Q.2) := Z_sq g2
  have s0 : Z (P.1 * Q.2 - P.2 * Q.1) := Z_sq g0
  have pp : Z (P.1 ^ 2 - P.2 ^ 2) := by
    have t1 : Z ((P.1 ^ 2 - P.2 ^ 2) * Q.1) := Z.of_eq (b := P.1 * (P.1 * Q.1 - P.2 * Q.2) + P.2 * (P.1 * Q.2 - P.2 * Q.1)) (by grind) ((Z.mul' _ s2).add (Z.mul' _ s0))
    have t2 : Z ((P.1 ^ 2 - P.2 ^ 2) * Q.2) := Z.of_eq (b := P.1 * (P.1 * Q.2 - P.2 * Q.1) + P.2 * (P.1 * Q.1 - P.2 * Q.2)) (by grind) ((Z.mul' _ s0).add (Z.mul' _ s2))
    rcases Z_prime t1 with k | k
    · exact k
    · rcases Z_prime t2 with k' | k'
      · exact k'
      · exact (hQ ⟨k, k'⟩).elim
  obtain ⟨e, he, hs⟩ := sign_of pp
  have p2 : ¬ Z P.2 := fun k => hP ⟨Z.of_eq (b := (P.1 - e * P.2) + e * P.2) (by omega) (hs.add (Z.mul' _ k)), k⟩
  have q1 : Z (Q.1 - e * Q.2) := by
    refine (Z_prime (a := P.2) ?_).resolve_left p2
    refine Z.of_eq (b := (P.1 - e * P.2) * Q.2 - (P.1 * Q.2 - P.2 * Q.1)) ?_ ((hs.mul _).sub s0)
    grind
  have q2 : ¬ Z Q.2 := fun k => hQ ⟨Z.of_eq (b := (Q.1 - e * Q.2) + e * Q.2) (by omega) (q1.add (Z.mul' _ k)), k⟩
  have k : Z (4 * (P.2 * P.2 * (Q.2 * Q.2) * (2 * e + cA))) := by
    refine Z.of_eq (b := b1 cA P Q - (P.1 - e * P.2) * (2 * ((P.1 + e * P.2) * Q.1 * Q.2 + P.2 * Q.2 ^ 2 + P.2 * Q.1 ^ 2 + 2 * cA * P.2 * Q.1 * Q.2)) - (Q.1 - e * Q.2) * (2 * (2 * P.2 ^ 2 * Q.2 + e * P.2 ^ 2 * (Q.1 + e * Q.2) + 2 * cA * e * P.2 ^ 2 * Q.2))) ?_ ((g1.sub (hs.mul _)).sub (q1.mul _))
    simp only [b1]
    clear hr hP hQ h1 h2 g0 g1 g2 s2 s0 pp hs p2 q1 q2 hu
    generalize P.1 = x
    generalize P.2 = x'
    generalize Q.1 = y
    generalize Q.2 = y'
    generalize cA = c
    grind
  exact nz_mul nz4 (nz_mul (nz_mul (nz_mul p2 p2) (nz_mul q2 q2)) (nz_A e he)) k
/-- The multiples of the point (u, 1); the first number is fuel. -/
def xsF (u : Int) : Nat → Nat → Pt
  | 0, _ => (1, 0)
  | f + 1, n => if n = 0 then (1, 0) else if n = 1 then (u, 1) else if n % 2 = 0 then dblP (xsF u f (n / 2)) else dadd u (xsF u f (n / 2)) (xsF u f (n / 2 + 1))
theorem xsF_fuel (u : Int) : ∀ f f' n : Nat, n < f → n < f' → xsF u f n = xsF u f' n
  | 0, _, _, h, _ => by omega
  | _ + 1, 0, _, _, h => by omega
  | f + 1, f' + 1, n, h, h' => by
    simp only [xsF]
    split
    · rfl
    · split
      · rfl
      · split
        · rw [xsF_fuel u f f' (n / 2) (by omega) (by omega)]
        · rw [xsF_fuel u f f' (n / 2) (by omega) (by omega), xsF_fuel u f f' (n / 2 + 1) (by omega) (by omega)]
def xs (u : Int) (n : Nat) : Pt := xsF u (n + 1) n
theorem xs_zero (u : Int) : xs u 0 = (1, 0) := rfl
theorem xs_one (u : Int) : xs u 1 = (u, 1) := rfl
theorem xs_dbl (u : Int) (n : Nat) : xs u (2 * n) = dblP (xs u n) := by
  rcases Nat.eq_zero_or_pos n with rfl | h
  · rfl
  · unfold xs
    rw [xsF, if_neg (by omega), if_neg (by omega), if_pos (by omega), show 2 * n / 2 = n by omega, xsF_fuel u (2 * n) (n + 1) n (by omega) (by omega)]
theorem xs_add (u : Int) (n : Nat) (h : 1 ≤ n) : xs u (2 * n + 1) = dadd u (xs u n) (xs u (n + 1)) := by
  unfold xs
  rw [xsF, if_neg (by omega), if_neg (by omega), if_neg (by omega), show (2 * n + 1) / 2 = n by omega, xsF_fuel u (2 * n + 1) (n + 1) n (by omega) (by omega), xsF_fuel u (2 * n + 1) (n + 1 + 1) (n + 1) (by omega) (by omega)]
theorem xs_main {u : Int} (hu : ¬ Z u) : ∀ s, NZ (xs u s) ∧ ∀ m n, n ≤ m → m + n = s → Split cA (xs u m) (xs u n) (xs u (m + n)) (xs u (m - n)) := by
  intro s
  induction s using Nat.strongRecOn with
  | ind s ih =>
    have root : ∀ k, 1 ≤ k → k + 1 < s → Z (Fm cA (xs u k) (xs u (k + 1)) (u, 1)) := fun k hk hs => by
      have h := ((ih (k + 1) hs).2 k 1 hk rfl).root
      rw [xs_one] at h
      rwa [Fm_right] at h
    refine ⟨?_, fun m n => ?_⟩
    · rcases Nat.lt_or_ge s 2 with h | h
      · obtain rfl | rfl : s = 0 ∨ s = 1 := by omega
        · rw [xs_zero]; exact fun h => nz1 h.1
        · rw [xs_one]; exact fun h => nz1 h.2
      · rcases Nat.mod_two_eq_zero_or_one s with e | e
        · have es : s = 2 * (s / 2) := by omega
          rw [es, xs_dbl]
          exact nz_dbl (ih (s / 2) (by omega)).1
        · have es : s = 2 * (s / 2) + 1 := by omega
          rw [es, xs_add u _ (by omega)]
          exact nz_dadd hu (ih (s / 2) (by omega)).1 (ih (s / 2 + 1) (by omega)).1 (root (s / 2) (by omega) (by omega))
    · generalize hd : m - n = d
      induction d using Nat.strongRecOn generalizing m n with
      | ind d ihd =>
        intro hnm hs
        rw [← hd]
        rcases Nat.eq_zero_or_pos n with rfl | hn
        · rw [Nat.add_zero, Nat.sub_zero, xs_zero]; exact split_zero _
        · rcases Nat.lt_or_ge d 2 with h2 | h2
          · obtain rfl | rfl : d = 0 ∨ d = 1 := by omega
            · have e : m = n := by omega
              subst e
              rw [Nat.sub_self, xs_zero, ← Nat.two_mul, xs_dbl]
              exact split_dbl _
            · have e : m = n + 1 := by omega
              subst e
              rw [show n + 1 - n = 1 by omega, xs_one, show n + 1 + n = 2 * n + 1 by omega, xs_add u n hn]
              exact (split_next hu (root n hn (by omega))).symm
          · have s1 := (ih m (by omega)).2 (m - 1) 1 (by omega) (by omega)
            have s2 := ((ih (n + 1) (by omega)).2 n 1 hn rfl).symm
            have h1 := (ih (s - 2) (by omega)).2 (m - 2) n (by omega) (by omega)
            have h2' := (ihd (m - 1 - (n + 1)) (by omega) (m - 1) (n + 1) rfl (by omega) (by omega)).symm
            have h3 := ((ih (s - 2) (by omega)).2 (m - 1) (n - 1) (by omega) (by omega)).symm
            rw [show m - 1 + 1 = m by omega, show m - 1 - 1 = m - 2 by omega] at s1
            rw [show m - 1 + (n + 1) = m + n by omega, show m - 1 - (n + 1) = m - 2 - n by omega] at h2'
            rw [show m - 1 + (n - 1) = m - 2 + n by omega, show m - 1 - (n - 1) = m - n by omega] at h3
            exact next_sum s1 s2 h1 h2' h3 (ih (m - 2 + n) (by omega)).1 (ih (m - 2 - n) (by omega)).1
end Go.Proofs.YtdjpacgjhcidpabGreatDoor
namespace Go.Proofs.YtdjpacgjhcidpabGreatDoor
open Go.RowKit
theorem last_bit (ks : List Nat) (h : KBytes ks) : bitAt (scal ks) 0 = 0 := by
  unfold bitAt scal
  rw [getD_set, getD_set]
  rw [if_neg (by omega), if_pos ⟨rfl, by rw [h.1]; decide⟩]
  simp
  omega
/-- Where the first point's product is nought, nought comes of it. -/
theorem done_zero (ks us : List Nat) (h : Z (((ladTo (scal ks) (numOf us % pN) 255).x2 : Int) * ((ladTo (scal ks) (numOf us % pN) 255).z2 : Int))) : curveN ks us = 0 := by
  have ok := ladTo_ok (scal ks) (numOf us % pN) (Nat.mod_lt _ (by decide)) 255
  unfold curveN
  generalize ladTo (scal ks) (numOf us % pN) 255 = l at *
  rcases Z_prime h with h | h
  · rw [Z_nat, Nat.mod_eq_of_lt ok.1] at h
    rw [h]; unfold mN; rw [Nat.zero_mul]; rfl
  · rw [Z_nat, Nat.mod_eq_of_lt ok.2.1] at h
    rw [h, inv_zero]; unfold mN; rw [Nat.mul_zero]; rfl
theorem step_prod (u : Nat) (l : Lad) (h : l.ok) (hz : Z ((l.x2 : Int) * l.z2)) : Z ((l.step u).z2 : Int) :=
  (Z_iff (step_z2 u l h)).2 (Z.of_eq (b := (l.x2 : Int) * l.z2 * (4 * (((l.x2 : Int) + l.z2) * ((l.x2 : Int) + l.z2) + 121665 * (4 * (l.x2 : Int) * l.z2)))) (by grind) (hz.mul _))
/-- The point 0. -/
theorem lad_zero (ks : List Nat) : ∀ j, Z (((ladTo ks 0 j).x2 : Int) * (ladTo ks 0 j).z2) ∧ Z (((ladTo ks 0 j).x3 : Int) * (ladTo ks 0 j).z3)
  | 0 => ⟨Z.of_eq (by simp [ladTo]) Z_zero, Z.of_eq (by simp [ladTo]) Z_zero⟩
  | j + 1 => by
    have ih := lad_zero ks j
    have ok := ladTo_ok ks 0 (by decide) j
    have sw : ∀ (n : Nat) (l : Lad), (Z ((l.x2 : Int) * l.z2) ∧ Z ((l.x3 : Int) * l.z3)) → (Z (((l.swap n).x2 : Int) * (l.swap n).z2) ∧ Z (((l.swap n).x3 : Int) * (l.swap n).z3)) := fun n l h => by
      unfold Lad.swap
      split
      · exact ⟨h.2, h.1⟩
      · exact h
    refine sw _ _ ?_
    have h1 := sw (bitAt ks (254 - j)) _ ih
    have ok1 := swap_ok (n := bitAt ks (254 - j)) ok
    generalize (ladTo ks 0 j).swap (bitAt ks (254 - j)) = l at *
    refine ⟨Z.mul' _ (step_prod 0 l ok1 h1.1), Z.mul' _ ?_⟩
    show Z ((mN (mN 0 (lL l)) (lL l) : Nat) : Int)
    unfold mN
    rw [Nat.zero_mul, Nat.zero_mod, Nat.zero_mul, Nat.zero_mod]
    exact Z_zero
theorem curve_zero (ks : List Nat) : curveN ks zero32 = 0 := by
  refine done_zero ks zero32 ?_
  rw [show numOf zero32 % pN = 0 by decide +kernel]
  exact (lad_zero (scal ks) 255).1
end Go.Proofs.YtdjpacgjhcidpabGreatDoor
namespace Go.Proofs.YtdjpacgjhcidpabGreatDoor
open Go.RowKit
/-- Two pairs are one point. -/
def PR (P Q : Pt) : Prop := ∃ c d : Int, ¬ Z c ∧ ¬ Z d ∧ Z (c * P.1 - d * Q.1) ∧ Z (c * P.2 - d * Q.2)
theorem PR.symm {P Q : Pt} (h : PR P Q) : PR Q P := by
  obtain ⟨c, d, hc, hd, h1, h2⟩ := h
  exact ⟨d, c, hd, hc, Z_sub_comm h1, Z_sub_comm h2⟩
theorem PR.trans {P Q R : Pt} (h : PR P Q) (k : PR Q R) : PR P R := by
  obtain ⟨c, d, hc, hd, h1, h2⟩ := h
  obtain ⟨c', d', hc', hd', k1, k2⟩ := k
  refine ⟨c' * c, d * d', nz_mul hc' hc, nz_mul hd hd', ?_, ?_⟩
  · exact Z.of_eq (b := c' * (c * P.1 - d * Q.1) + d * (c' * Q.1 - d' * R.1)) (by grind) ((Z.mul' _ h1).add (Z.mul' _ k1))
  · exact Z.of_eq (b := c' * (c * P.2 - d * Q.2) + d * (c' * Q.2 - d' * R.2)) (by grind) ((Z.mul' _ h2).add (Z.mul' _ k2))
theorem PR.of {P Q : Pt} (h1 : Z (P.1 - Q.1)) (h2 : Z (P.2 - Q.2)) : PR P Q := ⟨1, 1, nz1, nz1, Z.of_eq (by omega) h1, Z.of_eq (by omega) h2⟩
theorem PR.refl (P : Pt) : PR P P := PR.of (Z.of_eq (by omega) Z_zero) (Z.of_eq (by omega) Z_zero)
theorem nz_sq {a : Int} (h : ¬ Z a) : ¬ Z (a ^ 2) := fun k => h (Z_sq k)
theorem Z_sq_congr {a b : Int} (h : Z (a - b)) : Z (a ^ 2 - b ^ 2) := Z.of_eq (b := (a - b) * (a + b)) (by grind) (h.mul _)
theorem PR.dbl {P Q : Pt} (h : PR P Q) : PR (dblP P) (dblP Q) := by
  obtain ⟨c, d, hc, hd, h1, h2⟩ := h
  have q1 := Z_sq_congr h1
  have q2 := Z_sq_congr h2
  refine ⟨(c ^ 2) ^ 2, (d ^ 2) ^ 2, nz_sq (nz_sq hc), nz_sq (nz_sq hd), ?_, ?_⟩
  · refine Z.of_eq (b := ((c * P.1) ^ 2 - (c * P.2) ^ 2) ^ 2 - ((d * Q.1) ^ 2 - (d * Q.2) ^ 2) ^ 2) (by simp only [Go.Proofs.YtdjpacgjhcidpabGreatDoor.dblP]; grind) (Z_sq_congr (Z_sub_congr q1 q2))
  · refine Z.of_eq (b := 4 * (c * P.1) * (c * P.2) * ((c * P.1) ^ 2 + cA * (c * P.1) * (c * P.2) + (c * P.2) ^ 2) - 4 * (d * Q.1) * (d * Q.2) * ((d * Q.1) ^ 2 + cA * (d * Q.1) * (d * Q.2) + (d * Q.2) ^ 2)) (by simp only [Go.Proofs.YtdjpacgjhcidpabGreatDoor.dblP]; grind) ?_
    have z : ∀ a : Int, Z (a - a) := fun a => Z.of_eq (by omega) Z_zero
    exact Z_mul_congr (Z_mul_congr (Z_mul_congr (z 4) h1) h2) (Z_add_congr (Z_add_congr q1 (Z_mul_congr (Z_mul_congr (z cA) h1) h2)) q2)
theorem PR.dadd {P Q P' Q' : Pt} (u : Int) (h : PR P P') (k : PR Q Q') : PR (dadd u P Q) (dadd u P' Q') := by
  obtain ⟨c, d, hc, hd, h1, h2⟩ := h
  obtain ⟨e, f, he, hf, k1, k2⟩ := k
  refine ⟨c ^ 2 * e ^ 2, d ^ 2 * f ^ 2, nz_mul (nz_sq hc) (nz_sq he), nz_mul (nz_sq hd) (nz_sq hf), ?_, ?_⟩
  · refine Z.of_eq (b := 4 * (((c * P.1) * (e * Q.1) - (c * P.2) * (e * Q.2)) ^ 2 - ((d * P'.1) * (f * Q'.1) - (d * P'.2) * (f * Q'.2)) ^ 2)) (by simp only [Go.Proofs.YtdjpacgjhcidpabGreatDoor.dadd, b2]; grind) (Z.mul' _ (Z_sq_congr (Z_sub_congr (Z_mul_congr h1 k1) (Z_mul_congr h2 k2))))
  · refine Z.of_eq (b := 4 * u * (((c * P.1) * (e * Q.2) - (c * P.2) * (e * Q.1)) ^ 2 - ((d * P'.1) * (f * Q'.2) - (d * P'.2) * (f * Q'.1)) ^ 2)) (by simp only [Go.Proofs.YtdjpacgjhcidpabGreatDoor.dadd, b0]; grind) (Z.mul' _ (Z_sq_congr (Z_sub_congr (Z_mul_congr h1 k2) (Z_mul_congr h2 k1))))
/-- A row of points of which each is made of those at half its place. -/
structure Row2 (v : Int) (y : Nat → Pt) : Prop where
  z : PR (y 0) (1, 0)
  o : PR (y 1) (v, 1)
  d : ∀ k, PR (y (2 * k)) (dblP (y k))
  s : ∀ k, PR (y (2 * k + 1)) (dadd v (y k) (y (k + 1)))
/-- The number that the bits tell. -/
def nTo (ks : List Nat) : Nat → Nat
  | 0 => 0
  | j + 1 => 2 * nTo ks j + bitAt ks (254 - j)
theorem dadd_comm (v : Int) (P Q : Pt) : dadd v P Q = dadd v Q P := by
  simp only [dadd, b0, b2, Prod.mk.injEq]
  constructor <;> grind
theorem step_PR (v : Nat) (l : Lad) (ok : l.ok) : PR (((l.step v).x2 : Int), ((l.step v).z2 : Int)) (dblP ((l.x2 : Int), (l.z2 : Int))) ∧ PR (((l.step v).x3 : Int), ((l.step v).z3 : Int)) (dadd (v : Int) ((l.x2 : Int), (l.z2 : Int)) ((l.x3 : Int), (l.z3 : Int))) := by
  constructor
  · refine PR.of (Z.of_eq ?_ (step_x2 v l ok)) (Z.of_eq ?_ (step_z2 v l ok))
    · simp only [dblP]; grind
    · simp only [dblP, cA]; grind
  · refine PR.of (Z.of_eq ?_ (step_x3 v l ok)) (Z.of_eq ?_ (step_z3 v l ok))
    · simp only [dadd, b2]; grind
    · simp only [dadd, b0]; grind
theorem lad_row {v : Nat} {y : Nat → Pt} (hv : v < pN) (hy : Row2 (v : Int) y) (ks : List Nat) : ∀ j, PR (((ladTo ks v j).x2 : Int), ((ladTo ks v j).z2 : Int)) (y (nTo ks j)) ∧ PR (((ladTo ks v j).x3 : Int), ((ladTo ks v j).z3 : Int)) (y (nTo ks j + 1))
  | 0 => ⟨hy.z.symm, hy.o.symm⟩
  | j + 1 => by
    obtain ⟨h1, h2⟩ := lad_row hv hy ks j
    have ok := ladTo_ok ks v hv j
    have e1 : ladTo ks v (j + 1) = (((ladTo ks v j).swap (bitAt ks (254 - j))).step v).swap (bitAt ks (254 - j)) := rfl
    have e2 : nTo ks (j + 1) = 2 * nTo ks j + bitAt ks (254 - j) := rfl
    rw [e1, e2]
    clear e1 e2
    have hb := bitAt_le ks (254 - j)
    generalize bitAt ks (254 - j) = t at *
    generalize nTo ks j = n at *
    obtain rfl | rfl : t = 0 ∨ t = 1 := by omega
    · have e : ∀ l : Lad, l.swap 0 = l := fun l => rfl
      rw [e, e]
      obtain ⟨s1, s2⟩ := step_PR v _ ok
      exact ⟨s1.trans (h1.dbl.trans (hy.d n).symm), s2.trans ((PR.dadd _ h1 h2).trans (hy.s n).symm)⟩
    · have e : ∀ l : Lad, l.swap 1 = ⟨l.x3, l.z3, l.x2, l.z2⟩ := fun l => rfl
      rw [e, e]
      obtain ⟨s1, s2⟩ := step_PR v ⟨(ladTo ks v j).x3, (ladTo ks v j).z3, (ladTo ks v j).x2, (ladTo ks v j).z2⟩ ⟨ok.2.2.1, ok.2.2.2, ok.1, ok.2.1⟩
      refine ⟨s2.trans ?_, s1.trans ?_⟩
      · rw [dadd_comm]; exact (PR.dadd _ h1 h2).trans (hy.s n).symm
      · rw [show 2 * n + 1 + 1 = 2 * (n + 1) by omega]; exact h2.dbl.trans (hy.d (n + 1)).symm
/-- A point's number: nought where one of the pair is. -/
def Val (P : Pt) (v : Nat) : Prop := v < pN ∧ (((Z P.1 ∨ Z P.2) ∧ v = 0) ∨ (¬ Z P.1 ∧ ¬ Z P.2 ∧ Z ((v : Int) * P.2 - P.1)))
theorem val_of (l : Lad) (ok : l.ok) : Val ((l.x2 : Int), (l.z2 : Int)) (mN l.x2 (invTo l.z2 255)) := by
  refine ⟨mN_lt _ _, ?_⟩
  by_cases h1 : Z (l.x2 : Int)
  · refine .inl ⟨.inl h1, ?_⟩
    rw [Z_nat, Nat.mod_eq_of_lt ok.1] at h1
    rw [h1]; unfold mN; rw [Nat.zero_mul]; rfl
  · by_cases h2 : Z (l.z2 : Int)
    · refine .inl ⟨.inr h2, ?_⟩
      rw [Z_nat, Nat.mod_eq_of_lt ok.2.1] at h2
      rw [h2, inv_zero]; unfold mN; rw [Nat.mul_zero]; rfl
    · refine .inr ⟨h1, h2, ?_⟩
      have pos : 0 < l.z2 := by
        rcases Nat.eq_zero_or_pos l.z2 with e | e
        · exact (h2 (by rw [e]; exact Z_zero)).elim
        · exact e
      have hi := inv_mul l.z2 pos ok.2.1
      have hz : Z (((l.z2 * invTo l.z2 255 : Nat) : Int) - 1) := by
        have := Z_mod (l.z2 * invTo l.z2 255)
        rw [hi] at this
        exact Z_sub_comm this
      rw [Int.natCast_mul] at hz
      have hm := Z_m l.x2 (invTo l.z2 255)
      simp only
      exact Z.of_eq (b := ((mN l.x2 (invTo l.z2 255) : Int) - (l.x2 : Int) * (invTo l.z2 255 : Int)) * (l.z2 : Int) + (l.x2 : Int) * ((l.z2 : Int) * (invTo l.z2 255 : Int) - 1)) (by grind) ((hm.mul _).add (Z.mul' _ hz))
theorem PR.z1 {P Q : Pt} (h : PR P Q) (k : Z P.1) : Z Q.1 := by
  obtain ⟨c, d, hc, hd, h1, h2⟩ := h
  exact (Z_prime (Z.of_eq (b := c * P.1 - (c * P.1 - d * Q.1)) (by omega) ((Z.mul' _ k).sub h1))).resolve_left hd
theorem PR.z2 {P Q : Pt} (h : PR P Q) (k : Z P.2) : Z Q.2 := by
  obtain ⟨c, d, hc, hd, h1, h2⟩ := h
  exact (Z_prime (Z.of_eq (b := c * P.2 - (c * P.2 - d * Q.2)) (by omega) ((Z.mul' _ k).sub h2))).resolve_left hd
theorem Val.move {P Q : Pt} {v : Nat} (h : PR P Q) (k : Val P v) : Val Q v := by
  refine ⟨k.1, ?_⟩
  rcases k.2 with ⟨k1, k2⟩ | ⟨k1, k2, k3⟩
  · exact .inl ⟨k1.imp h.z1 h.z2, k2⟩
  · refine .inr ⟨fun e => k1 (h.symm.z1 e), fun e => k2 (h.symm.z2 e), ?_⟩
    obtain ⟨c, d, hc, hd, h1, h2⟩ := h
    refine (Z_prime (a := d) ?_).resolve_left hd
    exact Z.of_eq (b := c * ((v : Int) * P.2 - P.1) - ((v : Int) * (c * P.2 - d * Q.2) - (c * P.1 - d * Q.1))) (by grind) ((Z.mul' _ k3).sub ((Z.mul' _ h2).sub h1))
theorem Z_small {a b : Nat} (ha : a < pN) (hb : b < pN) (h : Z ((a : Int) - (b : Int))) : a = b := by
  obtain ⟨c, hc⟩ := h
  have hp : ((pN : Nat) : Int) = 57896044618658097711785492504343953926634992332820282019728792003956564819949 := by decide
  rw [hp] at hc
  have hp' : pN = 57896044618658097711785492504343953926634992332820282019728792003956564819949 := by decide
  rw [hp'] at ha hb
  omega
theorem Val.uniq {P : Pt} {v w : Nat} (h : Val P v) (k : Val P w) : v = w := by
  rcases h.2 with ⟨h1, rfl⟩ | ⟨h1, h2, h3⟩ <;> rcases k.2 with ⟨k1, rfl⟩ | ⟨k1, k2, k3⟩
  · rfl
  · exact (h1.elim k1 k2).elim
  · exact (k1.elim h1 h2).elim
  · refine Z_small h.1 k.1 ((Z_prime (Z.of_eq (b := ((v : Int) * P.2 - P.1) - ((w : Int) * P.2 - P.1)) (a := P.2 * ((v : Int) - (w : Int))) (by grind) (h3.sub k3))).resolve_left h2)
/-- The scalar's number. -/
def scN (ks : List Nat) : Nat := nTo (scal ks) 255
theorem scN_even (ks : List Nat) (h : KBytes ks) : ∃ n, scN ks = 2 * n := ⟨nTo (scal ks) 254, by
  show 2 * nTo (scal ks) 254 + bitAt (scal ks) (254 - 254) = _
  rw [show bitAt (scal ks) (254 - 254) = 0 from last_bit ks h]; rfl⟩
theorem curve_row {ks us : List Nat} {v : Nat} {y : Nat → Pt} (hv : numOf us % pN = v) (hy : Row2 (v : Int) y) : Val (y (scN ks)) (curveN ks us) := by
  have hl : v < pN := hv ▸ Nat.mod_lt _ (by decide)
  have h := (lad_row hl hy (scal ks) 255).1
  have k := val_of _ (ladTo_ok (scal ks) v hl 255)
  unfold curveN
  rw [hv]
  exact k.move h
theorem row_xs {u : Int} (hu : ¬ Z u) : Row2 u (xs u) := by
  refine ⟨by rw [xs_zero]; exact PR.refl _, by rw [xs_one]; exact PR.refl _, fun k => by rw [xs_dbl]; exact PR.refl _, fun k => ?_⟩
  rcases Nat.eq_zero_or_pos k with rfl | h
  · rw [Nat.mul_zero, Nat.zero_add, xs_zero, xs_one]
    refine ⟨4 * u, 1, nz_mul nz4 hu, nz1, ?_, ?_⟩
    · exact Z.of_eq (by simp only [dadd, b2]; grind) Z_zero
    · exact Z.of_eq (by simp only [dadd, b0]; grind) Z_zero
  · rw [xs_add u k h]; exact PR.refl _
/-- The multiples of a multiple. -/
theorem row_mul {u : Int} (hu : ¬ Z u) (m : Nat) {v : Nat} (hv : Val (xs u m) v) (h0 : v ≠ 0) : Row2 (v : Int) (fun k => xs u (k * m)) := by
  obtain ⟨hl, h⟩ := hv
  rcases h with ⟨_, e⟩ | ⟨n1, n2, h⟩
  · exact (h0 e).elim
  have nv : ¬ Z (v : Int) := by rw [Z_nat, Nat.mod_eq_of_lt hl]; exact h0
  refine ⟨?_, ?_, fun k => ?_, fun k => ?_⟩
  · simp only [Nat.zero_mul]; rw [xs_zero]; exact PR.refl _
  · simp only [Nat.one_mul]
    exact ⟨1, (xs u m).2, nz1, n2, Z.of_eq (b := -((v : Int) * (xs u m).2 - (xs u m).1)) (by grind) h.neg, Z.of_eq (by grind) Z_zero⟩
  · show PR (xs u (2 * k * m)) (dblP (xs u (k * m)))
    rw [show 2 * k * m = 2 * (k * m) by rw [Nat.mul_assoc], xs_dbl]; exact PR.refl _
  · show PR (xs u ((2 * k + 1) * m)) (dadd (v : Int) (xs u (k * m)) (xs u ((k + 1) * m)))
    have s := (xs_main hu ((k + 1) * m + k * m)).2 ((k + 1) * m) (k * m) (Nat.mul_le_mul_right _ (by omega)) rfl
    rw [← Nat.add_mul, show k + 1 + k = 2 * k + 1 by omega, ← Nat.sub_mul, show k + 1 - k = 1 by omega, Nat.one_mul] at s
    rw [dadd_comm]
    obtain ⟨l, μ, hlz, hm, s0, s1, s2⟩ := s
    refine ⟨4 * (μ * (v : Int) * (xs u m).2), l, nz_mul nz4 (nz_mul (nz_mul hm nv) n2), hlz, ?_, ?_⟩
    · refine Z.of_eq (b := 4 * μ * (xs u ((2 * k + 1) * m)).1 * ((v : Int) * (xs u m).2 - (xs u m).1) - 4 * (l * b2 (xs u ((k + 1) * m)) (xs u (k * m)) - μ * ((xs u ((2 * k + 1) * m)).1 * (xs u m).1))) ?_ ((Z.mul' _ h).sub (Z.mul' _ s2))
      simp only [dadd]; grind
    · refine Z.of_eq (b := -(4 * (v : Int)) * (l * b0 (xs u ((k + 1) * m)) (xs u (k * m)) - μ * ((xs u ((2 * k + 1) * m)).2 * (xs u m).2))) ?_ (Z.mul' _ s0)
      simp only [dadd]; grind
/-- Where a multiple is the point at the end, its multiples are. -/
theorem end_mul {u : Int} (hu : ¬ Z u) (m : Nat) (hm : Z (xs u m).2) : ∀ k, Z (xs u (k * m)).2
  | 0 => by rw [Nat.zero_mul, xs_zero]; exact Z_zero
  | 1 => by rw [Nat.one_mul]; exact hm
  | k + 2 => by
    have ih := end_mul hu m hm (k + 1)
    have s := (xs_main hu ((k + 1) * m + m)).2 ((k + 1) * m) m (Nat.le_mul_of_pos_left _ (by omega)) rfl
    have nd := (xs_main hu (k * m)).1
    rw [show (k + 1) * m + m = (k + 2) * m by rw [← Nat.succ_mul], show (k + 1) * m - m = k * m by rw [Nat.succ_mul]; omega] at s
    obtain ⟨l, μ, hlz, hμ, s0, s1, s2⟩ := s
    have e0 : Z ((xs u ((k + 2) * m)).2 * (xs u (k * m)).2) := by
      refine (Z_prime (a := μ) ?_).resolve_left hμ
      refine Z.of_eq (b := l * b0 (xs u ((k + 1) * m)) (xs u m) - (l * b0 (xs u ((k + 1) * m)) (xs u m) - μ * ((xs u ((k + 2) * m)).2 * (xs u (k * m)).2))) (by omega) ((Z.mul' _ ?_).sub s0)
      refine Z.of_eq (b := (xs u m).2 * ((xs u ((k + 1) * m)).1 * ((xs u ((k + 1) * m)).1 * (xs u m).2 - 2 * (xs u ((k + 1) * m)).2 * (xs u m).1)) + (xs u ((k + 1) * m)).2 * ((xs u ((k + 1) * m)).2 * (xs u m).1 ^ 2)) (by simp only [b0]; grind) ((hm.mul _).add (ih.mul _))
    have e1 : Z ((xs u ((k + 2) * m)).1 * (xs u (k * m)).2 + (xs u ((k + 2) * m)).2 * (xs u (k * m)).1) := by
      refine (Z_prime (a := μ) ?_).resolve_left hμ
      refine Z.of_eq (b := l * b1 cA (xs u ((k + 1) * m)) (xs u m) - (l * b1 cA (xs u ((k + 1) * m)) (xs u m) - μ * ((xs u ((k + 2) * m)).1 * (xs u (k * m)).2 + (xs u ((k + 2) * m)).2 * (xs u (k * m)).1))) (by omega) ((Z.mul' _ ?_).sub s1)
      refine Z.of_eq (b := (xs u m).2 * (2 * ((xs u ((k + 1) * m)).1 * ((xs u ((k + 1) * m)).1 * (xs u m).1 + (xs u ((k + 1) * m)).2 * (xs u m).2) + 2 * cA * (xs u ((k + 1) * m)).1 * (xs u ((k + 1) * m)).2 * (xs u m).1)) + (xs u ((k + 1) * m)).2 * (2 * ((xs u m).1 * ((xs u ((k + 1) * m)).1 * (xs u m).1 + (xs u ((k + 1) * m)).2 * (xs u m).2)))) (by simp only [b1]; grind) ((hm.mul _).add (ih.mul _))
    rcases Z_prime e0 with z | z
    · exact z
    · have e2 : Z ((xs u ((k + 2) * m)).2 * (xs u (k * m)).1) := Z.of_eq (b := ((xs u ((k + 2) * m)).1 * (xs u (k * m)).2 + (xs u ((k + 2) * m)).2 * (xs u (k * m)).1) - (xs u ((k + 2) * m)).1 * (xs u (k * m)).2) (by omega) (e1.sub (Z.mul' _ z))
      rcases Z_prime e2 with z2 | z2
      · exact z2
      · exact (nd ⟨z2, z⟩).elim
theorem numOf_back (r : Nat) (h : r < pN) : numOf (keyL r) % pN = r := by rw [numOf_key r (Nat.lt_trans h pN_255), Nat.mod_eq_of_lt h]
/-- Two scalars, one behind the other. -/
theorem curve_curve {ka kb us : List Nat} (ha : KBytes ka) {u : Nat} (hu : numOf us % pN = u) (h0 : u ≠ 0) : Val (xs (u : Int) (scN ka * scN kb)) (curveN ka (keyL (curveN kb us))) := by
  have hl : u < pN := hu ▸ Nat.mod_lt _ (by decide)
  have nu : ¬ Z (u : Int) := by rw [Z_nat, Nat.mod_eq_of_lt hl]; exact h0
  have hb := curve_row (ks := kb) hu (row_xs nu)
  have rl := curveN_lt kb us
  generalize curveN kb us = r at *
  by_cases hr : r = 0
  · subst hr
    rw [keyL_zero, curve_zero]
    refine ⟨by decide, .inl ⟨.inr ?_, rfl⟩⟩
    rcases hb.2 with ⟨h, _⟩ | ⟨h1, h2, h3⟩
    · rcases h with h | h
      · obtain ⟨n, hn⟩ := scN_even ka ha
        have e2 : Z (xs (u : Int) (2 * scN kb)).2 := by
          rw [xs_dbl]
          exact Z.of_eq (b := (xs (u : Int) (scN kb)).1 * (4 * (xs (u : Int) (scN kb)).2 * ((xs (u : Int) (scN kb)).1 ^ 2 + cA * (xs (u : Int) (scN kb)).1 * (xs (u : Int) (scN kb)).2 + (xs (u : Int) (scN kb)).2 ^ 2))) (by simp only [dblP]; grind) (h.mul _)
        have := end_mul nu _ e2 n
        rw [hn, show 2 * n * scN kb = n * (2 * scN kb) by rw [Nat.mul_comm 2 n, Nat.mul_assoc]]
        exact this
      · exact end_mul nu _ h (scN ka)
    · exact (h1 (Z.of_eq (b := -(((0 : Nat) : Int) * (xs (u : Int) (scN kb)).2 - (xs (u : Int) (scN kb)).1)) (by simp) h3.neg)).elim
  · exact curve_row (numOf_back r rl) (row_mul nu (scN kb) hb hr)
theorem curve_u0 (ks us : List Nat) (h : numOf us % pN = 0) : curveN ks us = 0 := by
  refine done_zero ks us ?_
  rw [h]
  exact (lad_zero (scal ks) 255).1
theorem curve_turns (ka kb us : List Nat) (ha : KBytes ka) (hb : KBytes kb) : curveN ka (keyL (curveN kb us)) = curveN kb (keyL (curveN ka us)) := by
  by_cases h : numOf us % pN = 0
  · rw [curve_u0 ka us h, curve_u0 kb us h, keyL_zero, curve_zero, curve_zero]
  · have h1 := curve_curve (kb := kb) ha rfl h
    have h2 := curve_curve (kb := ka) hb rfl h
    rw [Nat.mul_comm] at h2
    exact h1.uniq h2
end Go.Proofs.YtdjpacgjhcidpabGreatDoor
namespace Go.Proofs.YtdjpacgjhcidpabGreatDoor
open Go.RowKit
theorem prime11 : IsP 11 := isP_small 11 4 (by decide) (by decide) (by decide +kernel)
theorem prime73 : IsP 73 := isP_small 73 9 (by decide) (by decide) (by decide +kernel)
theorem prime269 : IsP 269 := isP_small 269 17 (by decide) (by decide) (by decide +kernel)
theorem prime307 : IsP 307 := isP_small 307 18 (by decide) (by decide) (by decide +kernel)
theorem prime1361 : IsP 1361 := isP_small 1361 37 (by decide) (by decide) (by decide +kernel)
theorem prime2851 : IsP 2851 := isP_small 2851 54 (by decide) (by decide) (by decide +kernel)
theorem prime5879 : IsP 5879 := isP_small 5879 77 (by decide) (by decide) (by decide +kernel)
theorem prime30703 : IsP 30703 := isP_small 30703 176 (by decide) (by decide) (by decide +kernel)
theorem prime82163 : IsP 82163 := isP_small 82163 287 (by decide) (by decide) (by decide +kernel)
theorem prime132667 : IsP 132667 := isP_small 132667 365 (by decide) (by decide) (by decide +kernel)
theorem prime137849 : IsP 137849 := isP_small 137849 372 (by decide) (by decide) (by decide +kernel)
theorem prime409477 : IsP 409477 := isP_small 409477 640 (by decide) (by decide) (by decide +kernel)
theorem prime531581 : IsP 531581 := isP_small 531581 730 (by decide) (by decide) (by decide +kernel)
theorem prime1224481 : IsP 1224481 := isP_small 1224481 1107 (by decide) (by decide) (by decide +kernel)
theorem prime14741173 : IsP 14741173 :=
  (lucas_pm 14741173 2 25 (by decide +kernel) (by decide +kernel) [(2, 2), (3, 2), (409477, 1)] (by decide +kernel) (fun x hx => by
    simp only [List.mem_cons, List.not_mem_nil, or_false] at hx
    rcases hx with rfl | rfl | rfl
    all_goals first | exact prime2 | exact prime3 | exact prime409477) (by decide +kernel) (by decide +kernel)).1
theorem prime58964693 : IsP 58964693 :=
  (lucas_pm 58964693 2 27 (by decide +kernel) (by decide +kernel) [(2, 2), (14741173, 1)] (by decide +kernel) (fun x hx => by
    simp only [List.mem_cons, List.not_mem_nil, or_false] at hx
    rcases hx with rfl | rfl
    all_goals first | exact prime2 | exact prime14741173) (by decide +kernel) (by decide +kernel)).1
theorem prime3044861653679985063343 : IsP 3044861653679985063343 :=
  (lucas_pm 3044861653679985063343 5 73 (by decide +kernel) (by decide +kernel) [(2, 1), (3, 1), (11, 1), (30703, 1), (82163, 1), (132667, 1), (137849, 1)] (by decide +kernel) (fun x hx => by
    simp only [List.mem_cons, List.not_mem_nil, or_false] at hx
    rcases hx with rfl | rfl | rfl | rfl | rfl | rfl | rfl
    all_goals first | exact prime2 | exact prime3 | exact prime11 | exact prime30703 | exact prime82163 | exact prime132667 | exact prime137849) (by decide +kernel) (by decide +kernel)).1
theorem prime198211423230930754013084525763697 : IsP 198211423230930754013084525763697 :=
  (lucas_pm 198211423230930754013084525763697 5 109 (by decide +kernel) (by decide +kernel) [(2, 4), (3, 1), (23, 1), (58964693, 1), (3044861653679985063343, 1)] (by decide +kernel) (fun x hx => by
    simp only [List.mem_cons, List.not_mem_nil, or_false] at hx
    rcases hx with rfl | rfl | rfl | rfl | rfl
    all_goals first | exact prime2 | exact prime3 | exact prime23 | exact prime58964693 | exact prime3044861653679985063343) (by decide +kernel) (by decide +kernel)).1
theorem prime292386187 : IsP 292386187 :=
  (lucas_pm 292386187 2 30 (by decide +kernel) (by decide +kernel) [(2, 1), (3, 4), (307, 1), (5879, 1)] (by decide +kernel) (fun x hx => by
    simp only [List.mem_cons, List.not_mem_nil, or_false] at hx
    rcases hx with rfl | rfl | rfl | rfl
    all_goals first | exact prime2 | exact prime3 | exact prime307 | exact prime5879) (by decide +kernel) (by decide +kernel)).1
theorem prime213441916511 : IsP 213441916511 :=
  (lucas_pm 213441916511 13 39 (by decide +kernel) (by decide +kernel) [(2, 1), (5, 1), (73, 1), (292386187, 1)] (by decide +kernel) (fun x hx => by
    simp only [List.mem_cons, List.not_mem_nil, or_false] at hx
    rcases hx with rfl | rfl | rfl | rfl
    all_goals first | exact prime2 | exact prime5 | exact prime73 | exact prime292386187) (by decide +kernel) (by decide +kernel)).1
theorem prime1257559732178653 : IsP 1257559732178653 :=
  (lucas_pm 1257559732178653 2 52 (by decide +kernel) (by decide +kernel) [(2, 2), (3, 1), (7, 1), (23, 1), (531581, 1), (1224481, 1)] (by decide +kernel) (fun x hx => by
    simp only [List.mem_cons, List.not_mem_nil, or_false] at hx
    rcases hx with rfl | rfl | rfl | rfl | rfl | rfl
    all_goals first | exact prime2 | exact prime3 | exact prime7 | exact prime23 | exact prime531581 | exact prime1224481) (by decide +kernel) (by decide +kernel)).1
theorem prime4434155615661930479 : IsP 4434155615661930479 :=
  (lucas_pm 4434155615661930479 17 63 (by decide +kernel) (by decide +kernel) [(2, 1), (41, 1), (43, 1), (1257559732178653, 1)] (by decide +kernel) (fun x hx => by
    simp only [List.mem_cons, List.not_mem_nil, or_false] at hx
    rcases hx with rfl | rfl | rfl | rfl
    all_goals first | exact prime2 | exact prime41 | exact prime43 | exact prime1257559732178653) (by decide +kernel) (by decide +kernel)).1
theorem prime172054593956031949258510691 : IsP 172054593956031949258510691 :=
  (lucas_pm 172054593956031949258510691 2 89 (by decide +kernel) (by decide +kernel) [(2, 1), (5, 1), (1361, 1), (2851, 1), (4434155615661930479, 1)] (by decide +kernel) (fun x hx => by
    simp only [List.mem_cons, List.not_mem_nil, or_false] at hx
    rcases hx with rfl | rfl | rfl | rfl | rfl
    all_goals first | exact prime2 | exact prime5 | exact prime1361 | exact prime2851 | exact prime4434155615661930479) (by decide +kernel) (by decide +kernel)).1
theorem prime19757330305831588566944191468367130476339 : IsP 19757330305831588566944191468367130476339 :=
  (lucas_pm 19757330305831588566944191468367130476339 2 135 (by decide +kernel) (by decide +kernel) [(2, 1), (269, 1), (213441916511, 1), (172054593956031949258510691, 1)] (by decide +kernel) (fun x hx => by
    simp only [List.mem_cons, List.not_mem_nil, or_false] at hx
    rcases hx with rfl | rfl | rfl | rfl
    all_goals first | exact prime2 | exact prime269 | exact prime213441916511 | exact prime172054593956031949258510691) (by decide +kernel) (by decide +kernel)).1
theorem prime276602624281642239937218680557139826668747 : IsP 276602624281642239937218680557139826668747 :=
  (lucas_pm 276602624281642239937218680557139826668747 2 139 (by decide +kernel) (by decide +kernel) [(2, 1), (7, 1), (19757330305831588566944191468367130476339, 1)] (by decide +kernel) (fun x hx => by
    simp only [List.mem_cons, List.not_mem_nil, or_false] at hx
    rcases hx with rfl | rfl | rfl
    all_goals first | exact prime2 | exact prime7 | exact prime19757330305831588566944191468367130476339) (by decide +kernel) (by decide +kernel)).1
theorem prime7237005577332262213973186563042994240857116359379907606001950938285454250989 : IsP 7237005577332262213973186563042994240857116359379907606001950938285454250989 :=
  (lucas_pm 7237005577332262213973186563042994240857116359379907606001950938285454250989 2 254 (by decide +kernel) (by decide +kernel) [(2, 2), (3, 1), (11, 1), (198211423230930754013084525763697, 1), (276602624281642239937218680557139826668747, 1)] (by decide +kernel) (fun x hx => by
    simp only [List.mem_cons, List.not_mem_nil, or_false] at hx
    rcases hx with rfl | rfl | rfl | rfl | rfl
    all_goals first | exact prime2 | exact prime3 | exact prime11 | exact prime198211423230930754013084525763697 | exact prime276602624281642239937218680557139826668747) (by decide +kernel) (by decide +kernel)).1
/-- The order of the base point. -/
def ellN : Nat := 7237005577332262213973186563042994240857116359379907606001950938285454250989
theorem ell_prime : IsP ellN := prime7237005577332262213973186563042994240857116359379907606001950938285454250989
end Go.Proofs.YtdjpacgjhcidpabGreatDoor
namespace Go.Proofs.YtdjpacgjhcidpabGreatDoor
open Go.RowKit
def ell32 : List Nat := [237, 211, 245, 92, 26, 99, 18, 88, 214, 156, 247, 162, 222, 249, 222, 20, 0, 0, 0, 0, 0, 0, 0, 0, 0, 0, 0, 0, 0, 0, 0, 16]
theorem ell_bits : nTo ell32 255 = ellN := by decide +kernel
theorem ell_end : (ladTo ell32 9 255).z2 = 0 := by decide +kernel
theorem nz9 : ¬ Z ((9 : Nat) : Int) := small_nz 9 (by decide) (by decide)
theorem ell_xs : Z (xs ((9 : Nat) : Int) ellN).2 := by
  have h := (lad_row (v := 9) (by decide) (row_xs nz9) ell32 255).1
  rw [ell_bits] at h
  refine h.z2 ?_
  show Z ((ladTo ell32 9 255).z2 : Int)
  rw [ell_end]; exact Z_zero
theorem end_sub {u : Int} (hu : ¬ Z u) {m n : Nat} (hnm : n ≤ m) (hm : Z (xs u m).2) (hn : Z (xs u n).2) : Z (xs u (m - n)).2 := by
  obtain ⟨l, μ, hlz, hμ, s0, s1, s2⟩ := (xs_main hu (m + n)).2 m n hnm rfl
  have ns := (xs_main hu (m + n)).1
  have e0 : Z ((xs u (m + n)).2 * (xs u (m - n)).2) := by
    refine (Z_prime (a := μ) ?_).resolve_left hμ
    refine Z.of_eq (b := l * b0 (xs u m) (xs u n) - (l * b0 (xs u m) (xs u n) - μ * ((xs u (m + n)).2 * (xs u (m - n)).2))) (by omega) ((Z.mul' _ ?_).sub s0)
    exact Z.of_eq (b := (xs u n).2 * ((xs u m).1 * ((xs u m).1 * (xs u n).2 - 2 * (xs u m).2 * (xs u n).1)) + (xs u m).2 * ((xs u m).2 * (xs u n).1 ^ 2)) (by simp only [b0]; grind) ((hn.mul _).add (hm.mul _))
  have e1 : Z ((xs u (m + n)).1 * (xs u (m - n)).2 + (xs u (m + n)).2 * (xs u (m - n)).1) := by
    refine (Z_prime (a := μ) ?_).resolve_left hμ
    refine Z.of_eq (b := l * b1 cA (xs u m) (xs u n) - (l * b1 cA (xs u m) (xs u n) - μ * ((xs u (m + n)).1 * (xs u (m - n)).2 + (xs u (m + n)).2 * (xs u (m - n)).1))) (by omega) ((Z.mul' _ ?_).sub s1)
    exact Z.of_eq (b := (xs u n).2 * (2 * ((xs u m).1 * ((xs u m).1 * (xs u n).1 + (xs u m).2 * (xs u n).2) + 2 * cA * (xs u m).1 * (xs u m).2 * (xs u n).1)) + (xs u m).2 * (2 * ((xs u n).1 * ((xs u m).1 * (xs u n).1 + (xs u m).2 * (xs u n).2)))) (by simp only [b1]; grind) ((hn.mul _).add (hm.mul _))
  rcases Z_prime e0 with z | z
  · have e2 : Z ((xs u (m + n)).1 * (xs u (m - n)).2) := Z.of_eq (b := ((xs u (m + n)).1 * (xs u (m - n)).2 + (xs u (m + n)).2 * (xs u (m - n)).1) - (xs u (m + n)).2 * (xs u (m - n)).1) (by omega) (e1.sub (z.mul _))
    rcases Z_prime e2 with z2 | z2
    · exact (ns ⟨z2, z⟩).elim
    · exact z2
  · exact z
theorem end_gcd {u : Int} (hu : ¬ Z u) : ∀ s m n : Nat, m + n ≤ s → Z (xs u m).2 → Z (xs u n).2 → Z (xs u (Nat.gcd m n)).2
  | 0, m, n, h, hm, _ => by
    obtain rfl : m = 0 := by omega
    obtain rfl : n = 0 := by omega
    exact hm
  | s + 1, m, n, h, hm, hn => by
    rcases Nat.eq_zero_or_pos m with rfl | pm
    · rw [Nat.gcd_zero_left]; exact hn
    · rcases Nat.eq_zero_or_pos n with rfl | pn
      · rw [Nat.gcd_zero_right]; exact hm
      · rcases Nat.lt_or_ge m n with h' | h'
        · have := end_gcd hu s m (n - m) (by omega) hm (end_sub hu (by omega) hn hm)
          rwa [Nat.gcd_sub_self_right (by omega)] at this
        · have := end_gcd hu s (m - n) n (by omega) (end_sub hu h' hm hn) hn
          rwa [Nat.gcd_sub_self_left h'] at this
theorem nTo_lt (ks : List Nat) : ∀ j, nTo ks j < 2 ^ j
  | 0 => Nat.zero_lt_one
  | j + 1 => by
    have := nTo_lt ks j
    have := bitAt_le ks (254 - j)
    show 2 * nTo ks j + bitAt ks (254 - j) < 2 ^ (j + 1)
    rw [Nat.pow_succ]
    omega
theorem nTo_pos (ks : List Nat) (h : bitAt ks 254 = 1) : ∀ j, 0 < nTo ks (j + 1)
  | 0 => by show 0 < 2 * 0 + bitAt ks 254; omega
  | j + 1 => by
    have := nTo_pos ks h j
    show 0 < 2 * nTo ks (j + 1) + bitAt ks (254 - (j + 1))
    omega
theorem scal_bit (ks : List Nat) (h : KBytes ks) (i : Nat) (hi : i < 3) : bitAt (scal ks) i = 0 := by
  unfold bitAt scal
  rw [show i / 8 = 0 by omega, getD_set, getD_set, if_neg (by omega), if_pos ⟨rfl, by rw [h.1]; decide⟩]
  obtain rfl | rfl | rfl : i = 0 ∨ i = 1 ∨ i = 2 := by omega
  all_goals simp only [Nat.reduceMod, Nat.reducePow]; omega
theorem scal_top (ks : List Nat) (h : KBytes ks) : bitAt (scal ks) 254 = 1 := by
  unfold bitAt scal
  rw [getD_set, if_pos ⟨rfl, by rw [List.length_set, h.1]; decide⟩]
  simp only [Nat.reduceMod, Nat.reducePow]
  omega
theorem scN_8 (ks : List Nat) (h : KBytes ks) : scN ks = 8 * nTo (scal ks) 252 := by
  have e1 : nTo (scal ks) 255 = 2 * nTo (scal ks) 254 + bitAt (scal ks) 0 := rfl
  have e2 : nTo (scal ks) 254 = 2 * nTo (scal ks) 253 + bitAt (scal ks) 1 := rfl
  have e3 : nTo (scal ks) 253 = 2 * nTo (scal ks) 252 + bitAt (scal ks) 2 := rfl
  unfold scN
  rw [e1, e2, e3, scal_bit ks h 0 (by omega), scal_bit ks h 1 (by omega), scal_bit ks h 2 (by omega)]
  omega
theorem scN_coprime (ks : List Nat) (h : KBytes ks) : Nat.Coprime (scN ks) ellN := by
  rw [scN_8 ks h]
  have c8 : Nat.Coprime 8 ellN := coprime_of ell_prime (fun d => absurd (Nat.le_of_dvd (by decide) d) (by decide))
  have cn : Nat.Coprime (nTo (scal ks) 252) ellN := coprime_of ell_prime (fun d => by
    have h1 : ellN ≤ nTo (scal ks) 252 := Nat.le_of_dvd (nTo_pos _ (scal_top ks h) 251) d
    have h2 := nTo_lt (scal ks) 252
    have h3 : 2 ^ 252 ≤ ellN := by decide
    omega)
  exact Nat.Coprime.mul_left c8 cn
theorem meets_nz (ka kb : List Nat) (ha : KBytes ka) (hb : KBytes kb) : curveN ka (keyL (curveN kb nine32)) ≠ 0 := by
  intro e
  have hv := curve_curve (kb := kb) (us := nine32) ha (u := 9) (by decide +kernel) (by decide)
  rw [e] at hv
  have z : Z (xs ((9 : Nat) : Int) (2 * (scN ka * scN kb))).2 := by
    rw [xs_dbl]
    rcases hv.2 with ⟨h, _⟩ | ⟨h1, h2, h3⟩
    · generalize xs ((9 : Nat) : Int) (scN ka * scN kb) = P at *
      rcases h with h | h
      · exact Z.of_eq (b := P.1 * (4 * P.2 * (P.1 ^ 2 + cA * P.1 * P.2 + P.2 ^ 2))) (by simp only [dblP]; grind) (h.mul _)
      · exact Z.of_eq (b := P.2 * (4 * P.1 * (P.1 ^ 2 + cA * P.1 * P.2 + P.2 ^ 2))) (by simp only [dblP]; grind) (h.mul _)
    · exact (h1 (Z.of_eq (b := -(((0 : Nat) : Int) * (xs ((9 : Nat) : Int) (scN ka * scN kb)).2 - (xs ((9 : Nat) : Int) (scN ka * scN kb)).1)) (by simp) h3.neg)).elim
  have g := end_gcd nz9 _ _ _ (Nat.le_refl _) z ell_xs
  have c2 : Nat.Coprime 2 ellN := coprime_of ell_prime (fun d => absurd (Nat.le_of_dvd (by decide) d) (by decide))
  have c : Nat.gcd (2 * (scN ka * scN kb)) ellN = 1 := Nat.Coprime.mul_left c2 (Nat.Coprime.mul_left (scN_coprime ka ha) (scN_coprime kb hb))
  rw [c, xs_one] at g
  exact nz1 g
end Go.Proofs.YtdjpacgjhcidpabGreatDoor
namespace Go.Proofs.YtdjpacgjhcidpabGreatDoor
open Go.RowKit
theorem nz_any {A B : List Nat} (hA : BytesK 32 A) (hB : BytesK 32 B) : ¬ curveN A (pbN B) = 0 := meets_nz A B ⟨hA.1, hA.2⟩ ⟨hB.1, hB.2⟩
theorem ss_any {A B : List Nat} (hA : BytesK 32 A) (hB : BytesK 32 B) : ssN A (pbN B) = ssN B (pbN A) := congrArg keyL (curve_turns A B nine32 ⟨hA.1, hA.2⟩ ⟨hB.1, hB.2⟩)
theorem oi_any {A B : List Nat} (hA : BytesK 32 A) (hB : BytesK 32 B) : outN A (pbN B) = inN B (pbN A) := by rw [outN, inN, ss_any hA hB]
theorem io_any {A B : List Nat} (hA : BytesK 32 A) (hB : BytesK 32 B) : inN A (pbN B) = outN B (pbN A) := (oi_any hB hA).symm
theorem rr_any {A B : List Nat} (hA : BytesK 32 A) (hB : BytesK 32 B) : rootN A (pbN B) = rootN B (pbN A) := by rw [rootN, rootN, ss_any hA hB, rowN_comm (pbN_ok A) (pbN_ok B)]
end Go.Proofs.YtdjpacgjhcidpabGreatDoor
namespace Go.Proofs.YtdjpacgjhcidpabGreatDoor
open Go.RowKit
set_option maxHeartbeats 1000000 in
set_option maxRecDepth 100000 in
theorem back_any (Tg : TypeId) (fg : Nat × Nat) (i h : Bool) (T A B X Y : List Nat) (r : Nat) (hT : ∀ i, T.getD i 0 < 256) (hA : BytesK 32 A) (hB : BytesK 32 B) (hr : r < 18446744073709551616) (hX : ∀ i, X.getD i 0 < 256) (hY : ∀ i, Y.getD i 0 < 256) (w0 : World) (hg : w0.heap[0]? = some (.cells (cn .u32 kTab) Tg fg)) :
    Calls Tryz.prog 4 #[.agg ((#[.bool i, .bool h, sB T] : Array Value) ++ ((cn .u8 A) ++ ((cn .u8 B) ++ ((#[iW r] : Array Value) ++ (#[sB X, sB Y] : Array Value)))))] w0 fun e w' => e = .returned (.bool true) ∧ Below w0.heap.size w0 w' := by
  have MM := MemS.start1 hg
  refine enter_fr Tryz.func4 rfl Tryz.ntmps4 (by simp) fun ac (FF : Fr 180 ac [(0, .agg ((#[.bool i, .bool h, sB T] : Array Value) ++ ((cn .u8 A) ++ ((cn .u8 B) ++ ((#[iW r] : Array Value) ++ (#[sB X, sB Y] : Array Value))))))]) => ?_
  obtain ⟨O, hOe⟩ : ∃ O, O = outN A (pbN B) := ⟨_, rfl⟩
  obtain ⟨J, hJe⟩ : ∃ J, J = inN A (pbN B) := ⟨_, rfl⟩
  obtain ⟨R, hRe⟩ : ∃ R, R = rootN A (pbN B) := ⟨_, rfl⟩
  have hO : BytesK 32 O := hOe ▸ outN_ok ..
  have hJ : BytesK 32 J := hJe ▸ inN_ok ..
  have hR : BytesK 32 R := hRe ▸ rootN_ok ..
  refine wp_seq (rg_c FF MM [(0, s_ 0 (.cells ((#[.bool i, .bool h, sB T] : Array Value) ++ ((cn .u8 A) ++ ((cn .u8 B) ++ ((#[iW r] : Array Value) ++ (#[sB X, sB Y] : Array Value))))) 38))] 3 [] [0] (⟨(by kernel_rfl), fun bq => fun _ _ FF1 MM1 => then_n ?_⟩))
  refine wp_seq (rg_lay FF1 MM1 [lval (pT bq), lval (.bool i), lval (.pointer (some ⟨bq, 1, none⟩)), lval (.bool h), lval (.pointer (some ⟨bq, 2, none⟩)), lval (sB T), lval (.pointer (some ⟨bq, 3, none⟩)), lval (.agg (cn .u8 A)), lval (.pointer (some ⟨bq, 35, none⟩)), lval (.agg (cn .u8 B)), lval (.pointer (some ⟨bq, 67, none⟩)), lval (iW r), lval (.pointer (some ⟨bq, 68, none⟩)), lval (aG #[sB X, sB Y]), lnew (.cells (cn .u8 (List.replicate 32 0)) 23) (fun b => pT b) (some (20, .cells (cn .u8 A) 23)), lnew (.cells (cn .u8 (List.replicate 32 0)) 23) (fun b => pT b) (some (21, .cells (cn .u8 B) 23)), lnew (oC #[sB [], sB []] 36) (fun b => pT b) (some (23, oC #[sB X, sB Y] 36)), lval (.bool i), lval (.bool h), lval (sB T), lsto 14, lsto 15, lval (iW r), lsto 16] [o_, l_ 0 (.bool i), o_, l_ 0 (.bool h), o_, l_ 0 (sB T), o_, l_ 0 (.agg (cn .u8 A)), o_, l_ 0 (.agg (cn .u8 B)), o_, l_ 0 (iW r), o_, l_ 0 (aG #[sB X, sB Y]), o_, o_, o_, o_, o_, o_, o_, o_, o_, o_] [2, 6, 7, 9, 3, 4, 5, 8] [bq = bq, ((#[.bool i, .bool h, sB T] : Array Value) ++ ((cn .u8 A) ++ ((cn .u8 B) ++ ((#[iW r] : Array Value) ++ (#[sB X, sB Y] : Array Value)))))[0]? = some (.bool i), bq = bq, ((#[.bool i, .bool h, sB T] : Array Value) ++ ((cn .u8 A) ++ ((cn .u8 B) ++ ((#[iW r] : Array Value) ++ (#[sB X, sB Y] : Array Value)))))[1]? = some (.bool h), bq = bq, ((#[.bool i, .bool h, sB T] : Array Value) ++ ((cn .u8 A) ++ ((cn .u8 B) ++ ((#[iW r] : Array Value) ++ (#[sB X, sB Y] : Array Value)))))[2]? = some (sB T), bq = bq, PartAt ((#[.bool i, .bool h, sB T] : Array Value) ++ ((cn .u8 A) ++ ((cn .u8 B) ++ ((#[iW r] : Array Value) ++ (#[sB X, sB Y] : Array Value))))) 3 (cn .u8 A), (cn .u8 A).size = 32, bq = bq, PartAt ((#[.bool i, .bool h, sB T] : Array Value) ++ ((cn .u8 A) ++ ((cn .u8 B) ++ ((#[iW r] : Array Value) ++ (#[sB X, sB Y] : Array Value))))) 35 (cn .u8 B), (cn .u8 B).size = 32, bq = bq, ((#[.bool i, .bool h, sB T] : Array Value) ++ ((cn .u8 A) ++ ((cn .u8 B) ++ ((#[iW r] : Array Value) ++ (#[sB X, sB Y] : Array Value)))))[67]? = some (iW r), bq = bq, PartAt ((#[.bool i, .bool h, sB T] : Array Value) ++ ((cn .u8 A) ++ ((cn .u8 B) ++ ((#[iW r] : Array Value) ++ (#[sB X, sB Y] : Array Value))))) 68 (#[sB X, sB Y] : Array Value), (#[sB X, sB Y] : Array Value).size = 2] (fun nb => [(8, iW r), (5, sB T), (4, .bool h), (3, .bool i), (9, pT (nb 16)), (7, pT (nb 15)), (6, pT (nb 14)), (2, .bool false)]) (fun nb => [((nb 14), .cells (cn .u8 A) 23), ((nb 15), .cells (cn .u8 B) 23), ((nb 16), oC #[sB X, sB Y] 36), (bq, .cells ((#[.bool i, .bool h, sB T] : Array Value) ++ ((cn .u8 A) ++ ((cn .u8 B) ++ ((#[iW r] : Array Value) ++ (#[sB X, sB Y] : Array Value))))) 38), (0, .cells (cn .u32 kTab) Tg fg)]) (by kernel_rfl) (by kernel_rfl) (by kernel_rfl) (by kernel_rfl) (fun _ => by kernel_rfl) (fun _ => by kernel_rfl) ⟨(fun a w => ⟨rfl, by simp [execOp, go_sem, cn]⟩), ⟨(fun a w => ⟨rfl, by simp [execOp, go_sem, cn]⟩), ⟨(fun a w => ⟨rfl, by simp [execOp, go_sem]; rfl⟩), ⟨⟨6, 36, 23, (cn .u8 (List.replicate 32 0)), (cn .u8 A), 7, rfl, rfl, rfl, by kernel_rfl, rfl, rfl, by kernel_rfl, rfl, rfl, (show (cn .u8 (List.replicate 32 0)).size = 32 from ((cn_size _ _).trans (List.length_replicate ..))).trans (show (cn .u8 A).size = 32 from ((cn_size _ _).trans hA.1)).symm, (cn_one _ _), (show _ = some 32 by kernel_rfl).trans (congrArg some (show (cn .u8 A).size = 32 from ((cn_size _ _).trans hA.1)).symm)⟩, ⟨⟨7, 38, 23, (cn .u8 (List.replicate 32 0)), (cn .u8 B), 9, rfl, rfl, rfl, by kernel_rfl, rfl, rfl, by kernel_rfl, rfl, rfl, (show (cn .u8 (List.replicate 32 0)).size = 32 from ((cn_size _ _).trans (List.length_replicate ..))).trans (show (cn .u8 B).size = 32 from ((cn_size _ _).trans hB.1)).symm, (cn_one _ _), (show _ = some 32 by kernel_rfl).trans (congrArg some (show (cn .u8 B).size = 32 from ((cn_size _ _).trans hB.1)).symm)⟩, ⟨⟨9, 42, 36, (#[sB [], sB []] : Array Value), (#[sB X, sB Y] : Array Value), 13, rfl, rfl, rfl, by kernel_rfl, rfl, rfl, by kernel_rfl, rfl, rfl, (show (#[sB [], sB []] : Array Value).size = 2 from rfl).trans (show (#[sB X, sB Y] : Array Value).size = 2 from rfl).symm, (by kernel_rfl), (show _ = some 2 by kernel_rfl).trans (congrArg some (show (#[sB X, sB Y] : Array Value).size = 2 from rfl).symm)⟩, trivial⟩⟩⟩⟩⟩⟩ ⟨rfl, ((cat_l (by simp)).trans rfl), rfl, ((cat_l (by simp)).trans rfl), rfl, ((cat_l (by simp)).trans rfl), rfl, (part_r 0 rfl rfl (part_l (part_whole _))), ((cn_size _ _).trans hA.1), rfl, (part_r 32 rfl rfl (part_r 0 ((cn_size _ _).trans hA.1) rfl (part_l (part_whole _)))), ((cn_size _ _).trans hB.1), rfl, ((cat_r 64 rfl rfl).trans ((cat_r 32 ((cn_size _ _).trans hA.1) rfl).trans ((cat_r 0 ((cn_size _ _).trans hB.1) rfl).trans ((cat_l (by simp)).trans rfl)))), rfl, (part_r 65 rfl rfl (part_r 33 ((cn_size _ _).trans hA.1) rfl (part_r 1 ((cn_size _ _).trans hB.1) rfl (part_r 0 rfl rfl (part_whole _))))), rfl, trivial⟩ (fun nb ac2 wd2 FF2 MM2 => then_n ?_))
  generalize nb 14 = ba at *
  generalize nb 15 = bb at *
  generalize nb 16 = bt at *
  refine wp_seq ?_
  by_cases a0 : T.length > 200
  · skip
    refine wp_seq (rg_c FF2 MM2 [(1, t_ (iN T.length)), (0, w_ 2)] 10 [57] [] (⟨(vI (bs_size _)), a0, fun _ _ FF3 MM3 => then_n ?_⟩))
    refine wp_cond_true (FF3.ev 0 rfl) ?_
    refine wp_seq (rg_c FF3 MM3 [(0, u_ 1 (.bool true))] 9 [9] [] (⟨⟨en_wakes, fun w Hw => wakes16 Tg fg w (Hw 4 _ rfl)⟩, fun _ _ FF4 MM4 => then_n ?_⟩))
    refine wp_ret ?_
    repeat first | refine then_ret ?_ | refine inb_ret ?_
    exact (ret_fr FF4 0 Tryz.results4 rfl ⟨rfl, MM4.below1 4 rfl hg⟩)
  by_cases a1 : X.length > 19
  · skip
    refine wp_seq (rg_c FF2 MM2 [(1, t_ (iN T.length)), (0, w_ 3), (1, w_ 1), (0, l_ 2 (sB X)), (0, t_ (iN X.length)), (0, w_ 2)] 10 [57] [] (⟨(vI (bs_size _)), a0, by decide, rfl, rfl, (vI (bs_size _)), a1, fun _ _ FF5 MM5 => then_n ?_⟩))
    refine wp_cond_true (FF5.ev 0 rfl) ?_
    refine wp_seq (rg_c FF5 MM5 [(0, u_ 1 (.bool true))] 9 [9] [] (⟨⟨en_wakes, fun w Hw => wakes16 Tg fg w (Hw 4 _ rfl)⟩, fun _ _ FF6 MM6 => then_n ?_⟩))
    refine wp_ret ?_
    repeat first | refine then_ret ?_ | refine inb_ret ?_
    exact (ret_fr FF6 0 Tryz.results4 rfl ⟨rfl, MM6.below1 4 rfl hg⟩)
  by_cases a2 : Y.length > 19
  · skip
    refine wp_seq (rg_c FF2 MM2 [(1, t_ (iN T.length)), (0, w_ 3), (1, w_ 1), (0, l_ 2 (sB X)), (0, t_ (iN X.length)), (0, w_ 3), (2, w_ 1), (0, l_ 2 (sB Y)), (0, t_ (iN Y.length)), (0, w_ 2)] 10 [57] [] (⟨(vI (bs_size _)), a0, by decide, rfl, rfl, (vI (bs_size _)), a1, by decide, rfl, rfl, (vI (bs_size _)), a2, fun _ _ FF7 MM7 => then_n ?_⟩))
    refine wp_cond_true (FF7.ev 0 rfl) ?_
    refine wp_seq (rg_c FF7 MM7 [(0, u_ 1 (.bool true))] 9 [9] [] (⟨⟨en_wakes, fun w Hw => wakes16 Tg fg w (Hw 4 _ rfl)⟩, fun _ _ FF8 MM8 => then_n ?_⟩))
    refine wp_ret ?_
    repeat first | refine then_ret ?_ | refine inb_ret ?_
    exact (ret_fr FF8 0 Tryz.results4 rfl ⟨rfl, MM8.below1 4 rfl hg⟩)
  refine wp_seq (rg_c FF2 MM2 [(1, t_ (iN T.length)), (0, w_ 3), (1, w_ 1), (0, l_ 2 (sB X)), (0, t_ (iN X.length)), (0, w_ 3), (2, w_ 1), (0, l_ 2 (sB Y)), (0, t_ (iN Y.length)), (0, w_ 3)] 10 [57] [] (⟨(vI (bs_size _)), a0, by decide, rfl, rfl, (vI (bs_size _)), a1, by decide, rfl, rfl, (vI (bs_size _)), a2, fun _ _ FF9 MM9 => then_n ?_⟩))
  refine wp_cond_false (FF9.ev 0 rfl) ?_
  refine wp_skip ?_
  refine then_n ?_
  refine wp_seq (wp_region_list ?_)
  refine rp_c 2 FF9 MM9 [] 61 [] [57, 3] (fun _ _ FF10 MM10 => ?_)
  refine st_callE [59, 8, 5, 4, 9, 7, 6, 2, 61] FF10 (d := 61) (mk := fun v => v) en_tnew rfl rfl (tnew_any T _) rfl (by kernel_rfl) (by decide) fun ac12 wd12 lv11 FF12 hr13 => ?_
  obtain ⟨gt, rfl, hB_gt, hf_gt, hb_gt⟩ := hr13
  have MM14 := MM10.keep hB_gt
  have MM15 : MemS (fun k => k < w0.heap.size ∧ k ≠ 0) w0 wd12 [(gt, oC #[sB T, iN 0] 75), (ba, .cells (cn .u8 A) 23), (bb, .cells (cn .u8 B) 23), (bt, oC #[sB X, sB Y] 36), (bq, .cells ((#[.bool i, .bool h, sB T] : Array Value) ++ ((cn .u8 A) ++ ((cn .u8 B) ++ ((#[iW r] : Array Value) ++ (#[sB X, sB Y] : Array Value))))) 38), (0, .cells (cn .u32 kTab) Tg fg)] [] := MM10.addFresh MM14 hb_gt hf_gt
  refine st_callE [8, 5, 4, 9, 7, 6, 2, 62] FF12 (d := 62) (mk := fun v => v) en_pnew rfl rfl (pnew_E i (some ⟨gt, 0, none⟩) _) rfl (by kernel_rfl) (by decide) fun ac17 wd17 lv16 FF17 hr18 => ?_
  obtain ⟨k, k1, k2, k3, rfl, hB_k, hN_k⟩ := hr18
  have MM19 : MemS (fun k => k < w0.heap.size ∧ k ≠ 0) w0 wd17 [(k, oC #[.bool i, pT gt, .map (some k1), .map (some k2), .map (some k3), iN 0] 73), (k1, KM []), (k2, KM []), (k3, NM []), (gt, oC #[sB T, iN 0] 75), (ba, .cells (cn .u8 A) 23), (bb, .cells (cn .u8 B) 23), (bt, oC #[sB X, sB Y] 36), (bq, .cells ((#[.bool i, .bool h, sB T] : Array Value) ++ ((cn .u8 A) ++ ((cn .u8 B) ++ ((#[iW r] : Array Value) ++ (#[sB X, sB Y] : Array Value))))) 38), (0, .cells (cn .u32 kTab) Tg fg)] [] := MM15.addAll hB_k hN_k.1 hN_k.2.1 hN_k.2.2
  refine rp_c 1 FF17 MM19 [] 11 [] [] (fun _ _ FF20 MM20 => ?_)
  refine wpl_nil (then_n ?_)
  refine wp_seq (rg_lay FF20 MM20 [lval (.agg (cn .u8 A)), lval (.agg (cn .u8 B)), lval (.agg (cn .u8 (pbN B))), lval (.tuple #[.agg ((cn .u8 O) ++ ((cn .u8 J) ++ (cn .u8 R))), iN 0]), lval (.tuple #[.agg ((cn .u8 O) ++ ((cn .u8 J) ++ (cn .u8 R))), iN 0]), lval (.agg ((cn .u8 O) ++ ((cn .u8 J) ++ (cn .u8 R)))), lval (iN 0), lnew (.cells ((cn .u8 (List.replicate 32 0)) ++ (cn .u8 (List.replicate 32 0)) ++ (cn .u8 (List.replicate 32 0))) 26) (fun b => pT b) (some (8, .cells ((cn .u8 O) ++ ((cn .u8 J) ++ (cn .u8 R))) 26)), lsto 7, lval (iN 0)] [b_ 5, b_ 6, t_ (.agg (cn .u8 (pbN B))), u_ 1 (.tuple #[.agg ((cn .u8 O) ++ ((cn .u8 J) ++ (cn .u8 R))), iN 0]), o_, o_, o_, o_, o_, o_] [10, 8, 5, 4, 9, 7, 6, 2, 11, 12] [ba = ba, (cn .u8 A).size = 32, bb = bb, (cn .u8 B).size = 32, CallP Tryz.prog 7 [.agg (cn .u8 B)] [] (.agg (cn .u8 (pbN B))), CallP Tryz.prog 6 [.agg (cn .u8 A), .agg (cn .u8 (pbN B))] [(k, oC #[.bool i, pT gt, .map (some k1), .map (some k2), .map (some k3), iN 0] 73), (k1, KM []), (k2, KM []), (k3, NM []), (gt, oC #[sB T, iN 0] 75), (ba, .cells (cn .u8 A) 23), (bb, .cells (cn .u8 B) 23), (bt, oC #[sB X, sB Y] 36), (bq, .cells ((#[.bool i, .bool h, sB T] : Array Value) ++ ((cn .u8 A) ++ ((cn .u8 B) ++ ((#[iW r] : Array Value) ++ (#[sB X, sB Y] : Array Value))))) 38), (0, .cells (cn .u32 kTab) Tg fg)] (.tuple #[.agg ((cn .u8 O) ++ ((cn .u8 J) ++ (cn .u8 R))), iN 0])] (fun nb => [(12, iN 0), (11, pT (nb 7)), (10, pT k), (8, iW r), (5, sB T), (4, .bool h), (9, pT bt), (7, pT bb), (6, pT ba), (2, .bool false)]) (fun nb => [((nb 7), .cells ((cn .u8 O) ++ ((cn .u8 J) ++ (cn .u8 R))) 26), (k, oC #[.bool i, pT gt, .map (some k1), .map (some k2), .map (some k3), iN 0] 73), (k1, KM []), (k2, KM []), (k3, NM []), (gt, oC #[sB T, iN 0] 75), (ba, .cells (cn .u8 A) 23), (bb, .cells (cn .u8 B) 23), (bt, oC #[sB X, sB Y] 36), (bq, .cells ((#[.bool i, .bool h, sB T] : Array Value) ++ ((cn .u8 A) ++ ((cn .u8 B) ++ ((#[iW r] : Array Value) ++ (#[sB X, sB Y] : Array Value))))) 38), (0, .cells (cn .u32 kTab) Tg fg)]) (by kernel_rfl) (by kernel_rfl) (by kernel_rfl) (by kernel_rfl) (fun _ => by kernel_rfl) (fun _ => by kernel_rfl) ⟨(fun a w => ⟨rfl, by simp [execOp, go_sem, show Tryz.zeroCells26 = ((cn .u8 (List.replicate 32 0)) ++ (cn .u8 (List.replicate 32 0)) ++ (cn .u8 (List.replicate 32 0))) by kernel_rfl]⟩), ⟨⟨11, 68, 26, ((cn .u8 (List.replicate 32 0)) ++ (cn .u8 (List.replicate 32 0)) ++ (cn .u8 (List.replicate 32 0))), ((cn .u8 O) ++ ((cn .u8 J) ++ (cn .u8 R))), 5, rfl, rfl, rfl, by kernel_rfl, rfl, rfl, by kernel_rfl, rfl, rfl, (show ((cn .u8 (List.replicate 32 0)) ++ (cn .u8 (List.replicate 32 0)) ++ (cn .u8 (List.replicate 32 0))).size = 96 from (by simp [cn_size])).trans (show ((cn .u8 O) ++ ((cn .u8 J) ++ (cn .u8 R))).size = 96 from (by simp [cn_size, hO.1, hJ.1, hR.1])).symm, (one_app (cn_one _ _) (one_app (cn_one _ _) (cn_one _ _))), (show _ = some 96 by kernel_rfl).trans (congrArg some (show ((cn .u8 O) ++ ((cn .u8 J) ++ (cn .u8 R))).size = 96 from (by simp [cn_size, hO.1, hJ.1, hR.1])).symm)⟩, trivial⟩⟩ ⟨rfl, ((cn_size _ _).trans hA.1), rfl, ((cn_size _ _).trans hB.1), (callP_of en_cpub (cpub_any B ⟨hB.1, hB.2⟩) _), ⟨en_meet, fun w Hw => by have h0 := meet_ok Tg fg A (pbN B) ⟨hA.1, hA.2⟩ ⟨(pbN_ok B).1, (pbN_ok B).2⟩ (nz_any hA hB) w (Hw 9 _ rfl); rw [← hOe, ← hJe, ← hRe] at h0; exact h0⟩, trivial⟩ (fun nb ac21 wd21 FF21 MM21 => then_n ?_))
  generalize nb 7 = bp at *
  refine wp_seq (rg_lay FF21 MM21 [lval (.agg (cn .u8 B)), lval (.agg (cn .u8 A)), lval (.agg (cn .u8 (pbN A))), lval (.tuple #[.agg ((cn .u8 J) ++ ((cn .u8 O) ++ (cn .u8 R))), iN 0]), lval (.tuple #[.agg ((cn .u8 J) ++ ((cn .u8 O) ++ (cn .u8 R))), iN 0]), lval (.agg ((cn .u8 J) ++ ((cn .u8 O) ++ (cn .u8 R)))), lval (iN 0), lnew (.cells ((cn .u8 (List.replicate 32 0)) ++ (cn .u8 (List.replicate 32 0)) ++ (cn .u8 (List.replicate 32 0))) 26) (fun b => pT b) (some (8, .cells ((cn .u8 J) ++ ((cn .u8 O) ++ (cn .u8 R))) 26)), lsto 7, lval (iN 0)] [b_ 7, b_ 6, t_ (.agg (cn .u8 (pbN A))), u_ 1 (.tuple #[.agg ((cn .u8 J) ++ ((cn .u8 O) ++ (cn .u8 R))), iN 0]), o_, o_, o_, o_, o_, o_] [12, 11, 10, 8, 5, 4, 9, 7, 6, 2, 13, 14] [bb = bb, (cn .u8 B).size = 32, ba = ba, (cn .u8 A).size = 32, CallP Tryz.prog 7 [.agg (cn .u8 A)] [] (.agg (cn .u8 (pbN A))), CallP Tryz.prog 6 [.agg (cn .u8 B), .agg (cn .u8 (pbN A))] [(bp, .cells ((cn .u8 O) ++ ((cn .u8 J) ++ (cn .u8 R))) 26), (k, oC #[.bool i, pT gt, .map (some k1), .map (some k2), .map (some k3), iN 0] 73), (k1, KM []), (k2, KM []), (k3, NM []), (gt, oC #[sB T, iN 0] 75), (ba, .cells (cn .u8 A) 23), (bb, .cells (cn .u8 B) 23), (bt, oC #[sB X, sB Y] 36), (bq, .cells ((#[.bool i, .bool h, sB T] : Array Value) ++ ((cn .u8 A) ++ ((cn .u8 B) ++ ((#[iW r] : Array Value) ++ (#[sB X, sB Y] : Array Value))))) 38), (0, .cells (cn .u32 kTab) Tg fg)] (.tuple #[.agg ((cn .u8 J) ++ ((cn .u8 O) ++ (cn .u8 R))), iN 0])] (fun nb => [(14, iN 0), (13, pT (nb 7)), (12, iN 0), (11, pT bp), (10, pT k), (8, iW r), (5, sB T), (4, .bool h), (9, pT bt), (7, pT bb), (6, pT ba), (2, .bool false)]) (fun nb => [((nb 7), .cells ((cn .u8 J) ++ ((cn .u8 O) ++ (cn .u8 R))) 26), (bp, .cells ((cn .u8 O) ++ ((cn .u8 J) ++ (cn .u8 R))) 26), (k, oC #[.bool i, pT gt, .map (some k1), .map (some k2), .map (some k3), iN 0] 73), (k1, KM []), (k2, KM []), (k3, NM []), (gt, oC #[sB T, iN 0] 75), (ba, .cells (cn .u8 A) 23), (bb, .cells (cn .u8 B) 23), (bt, oC #[sB X, sB Y] 36), (bq, .cells ((#[.bool i, .bool h, sB T] : Array Value) ++ ((cn .u8 A) ++ ((cn .u8 B) ++ ((#[iW r] : Array Value) ++ (#[sB X, sB Y] : Array Value))))) 38), (0, .cells (cn .u32 kTab) Tg fg)]) (by kernel_rfl) (by kernel_rfl) (by kernel_rfl) (by kernel_rfl) (fun _ => by kernel_rfl) (fun _ => by kernel_rfl) ⟨(fun a w => ⟨rfl, by simp [execOp, go_sem, show Tryz.zeroCells26 = ((cn .u8 (List.replicate 32 0)) ++ (cn .u8 (List.replicate 32 0)) ++ (cn .u8 (List.replicate 32 0))) by kernel_rfl]⟩), ⟨⟨13, 75, 26, ((cn .u8 (List.replicate 32 0)) ++ (cn .u8 (List.replicate 32 0)) ++ (cn .u8 (List.replicate 32 0))), ((cn .u8 J) ++ ((cn .u8 O) ++ (cn .u8 R))), 5, rfl, rfl, rfl, by kernel_rfl, rfl, rfl, by kernel_rfl, rfl, rfl, (show ((cn .u8 (List.replicate 32 0)) ++ (cn .u8 (List.replicate 32 0)) ++ (cn .u8 (List.replicate 32 0))).size = 96 from (by simp [cn_size])).trans (show ((cn .u8 J) ++ ((cn .u8 O) ++ (cn .u8 R))).size = 96 from (by simp [cn_size, hJ.1, hO.1, hR.1])).symm, (one_app (cn_one _ _) (one_app (cn_one _ _) (cn_one _ _))), (show _ = some 96 by kernel_rfl).trans (congrArg some (show ((cn .u8 J) ++ ((cn .u8 O) ++ (cn .u8 R))).size = 96 from (by simp [cn_size, hJ.1, hO.1, hR.1])).symm)⟩, trivial⟩⟩ ⟨rfl, ((cn_size _ _).trans hB.1), rfl, ((cn_size _ _).trans hA.1), (callP_of en_cpub (cpub_any A ⟨hA.1, hA.2⟩) _), ⟨en_meet, fun w Hw => by have h0 := meet_ok Tg fg B (pbN A) ⟨hB.1, hB.2⟩ ⟨(pbN_ok A).1, (pbN_ok A).2⟩ (nz_any hB hA) w (Hw 10 _ rfl); rw [← io_any hA hB, ← oi_any hA hB, ← rr_any hA hB, ← hOe, ← hJe, ← hRe] at h0; exact h0⟩, trivial⟩ (fun nb ac22 wd22 FF22 MM22 => then_n ?_))
  generalize nb 7 = bs_ at *
  refine wp_seq ?_
  refine wp_seq (rg_c FF22 MM22 [(1, w_ 3), (2, w_ 3)] 14 [82] [12] (⟨by decide, by decide, fun _ _ FF23 MM23 => then_n ?_⟩))
  refine wp_cond_false (FF23.ev 0 rfl) ?_
  refine wp_skip ?_
  refine then_n ?_
  refine wp_seq ?_
  by_cases hE : O = J
  · skip
    refine wp_seq (rg_c FF23 MM23 [(1, l_ 1 (.agg (cn .u8 O))), (1, l_ 1 (.agg (cn .u8 J))), (0, f_ (.bool true))] 14 [87] [] (⟨rfl, (part_l (part_whole _)), ((cn_size _ _).trans hO.1), rfl, (part_r 0 ((cn_size _ _).trans hO.1) rfl (part_l (part_whole _))), ((cn_size _ _).trans hJ.1), (eqA_ok (t := 23) (t' := 23) (e := 5) (m := 32) (k := .u8) (x := (.tmp 84)) (y := (.tmp 86)) (by kernel_rfl) Tryz.underlying23 Tryz.underlying5 (by kernel_rfl) (by kernel_rfl) (by kernel_rfl) rfl rfl hO.1 hJ.1 (decide_eq_true hE)), fun _ _ FF24 MM24 => then_n ?_⟩))
    refine wp_cond_true (FF24.ev 0 rfl) ?_
    refine wp_seq (rg_c FF24 MM24 [(0, u_ 1 (.bool true))] 14 [] [] (⟨⟨en_wakes, fun w Hw => wakes16 Tg fg w (Hw 11 _ rfl)⟩, fun _ _ FF25 MM25 => then_n ?_⟩))
    refine wp_ret ?_
    repeat first | refine then_ret ?_ | refine inb_ret ?_
    exact (ret_fr FF25 0 Tryz.results4 rfl ⟨rfl, MM25.below1 11 rfl hg⟩)
  · skip
    refine wp_seq (rg_c FF23 MM23 [(1, l_ 1 (.agg (cn .u8 O))), (1, l_ 1 (.agg (cn .u8 J))), (0, f_ (.bool false))] 14 [87] [] (⟨rfl, (part_l (part_whole _)), ((cn_size _ _).trans hO.1), rfl, (part_r 0 ((cn_size _ _).trans hO.1) rfl (part_l (part_whole _))), ((cn_size _ _).trans hJ.1), (eqA_ok (t := 23) (t' := 23) (e := 5) (m := 32) (k := .u8) (x := (.tmp 84)) (y := (.tmp 86)) (by kernel_rfl) Tryz.underlying23 Tryz.underlying5 (by kernel_rfl) (by kernel_rfl) (by kernel_rfl) rfl rfl hO.1 hJ.1 (decide_eq_false hE)), fun _ _ FF26 MM26 => then_n ?_⟩))
    refine wp_cond_false (FF26.ev 0 rfl) ?_
    refine wp_skip ?_
    refine then_n ?_
    refine wp_seq (rg_c FF26 MM26 [(1, b_ 1), (2, w_ 1), (0, l_ 9 (sB X)), (0, c_ (.tuple #[sB ((ownN (nmN R r) (sayI i h O J (nmN R r) [] [] T)) ++ (boxN i O (nonN 3 r) (sayK i h O J [] T) (bodyN X))), iN 0]) [(3, KM (sayK i h O J [] T)), (4, KM (idsP i (sayI i h O J (nmN R r) [] [] T))), (5, NM (noteP i O (nonN 3 r) (sayK i h O J [] T) (bodyN X) [])), (6, oC #[sB (sayT i h O J (nmN R r) [] [] T), iN (sayU i h O J (nmN R r) [] [] T 0)] 75)])] 17 [] [] (⟨rfl, (by simp [cn_size, hO.1, hJ.1, hR.1]), by decide, rfl, rfl, (callU_B [2, 3, 4, 5, 6, 11] en_say rfl rfl (fun w Hw => say_any (ks := []) (is := []) (pn := []) Tg fg O J R X r ⟨hO.1, hO.2⟩ ⟨hJ.1, hJ.2⟩ ⟨hR.1, hR.2⟩ hr hX (by omega) (okP_nil 32) (ownI_nil i) (okP_nil 16) (ownI_nil i) okQ_nil hT (by decide) h w (by rw [ids_nil]; exact Hw) (by rw [ids_nil]; exact (distinct_names rfl (distinct_at MM26.distinct (is := [2, 3, 4, 5, 6, 11]) rfl rfl))))), fun _ _ FF27 MM27 => then_n ?_⟩))
    have hs := said_first i h hO hJ (nmN_ok R r) hT
    have hTT := sayT_lt i h O J (nmN R r) [] [] hT
    have huu := sayU_le i h O J (nmN R r) [] [] T 0
    generalize sayK i h O J [] T = kk at *
    generalize sayI i h O J (nmN R r) [] [] T = ss at *
    generalize sayT i h O J (nmN R r) [] [] T = TT at *
    generalize sayU i h O J (nmN R r) [] [] T 0 = uu at *
    refine wp_seq (rg_c FF27 MM27 [(1, b_ 0), (2, w_ 1), (0, l_ 9 (sB Y)), (0, c_ (.tuple #[sB ((ownN (nmN R r) ss) ++ (boxN i J (nonN 3 r) kk (bodyN Y))), iN 0]) [(3, KM kk), (4, KM (idsP i ss)), (5, NM (noteP i J (nonN 3 r) kk (bodyN Y) (noteP i O (nonN 3 r) kk (bodyN X) []))), (6, oC #[sB TT, iN uu] 75)])] 19 [] [] (⟨rfl, (by simp [cn_size, hJ.1, hO.1, hR.1]), by decide, rfl, rfl, (callU_B [2, 3, 4, 5, 6, 11] en_say rfl rfl (fun w Hw => by have h0 := say_any Tg fg J O R Y r ⟨hJ.1, hJ.2⟩ ⟨hO.1, hO.2⟩ ⟨hR.1, hR.2⟩ hr hY (by omega) hs.1 hs.2.1 hs.2.2.1 hs.2.2.2.1 (okQ_nil.note hO ⟨nonN_len _ _, nonN_lt _ _⟩ (bodyN_lt hX (by omega)) (by rw [bodyN_len (by omega)]; decide)) hTT (by omega) h w Hw (distinct_names rfl (distinct_at MM27.distinct (is := [2, 3, 4, 5, 6, 11]) rfl rfl)); rw [(said_again hs TT uu).1, (said_again hs TT uu).2.1, (said_again hs TT uu).2.2.1, (said_again hs TT uu).2.2.2] at h0; exact h0)), fun _ _ FF28 MM28 => then_n ?_⟩))
    refine wp_seq (rg_c FF28 MM28 [(1, t_ (.tuple #[.agg (cn .u8 (ownN (nmN R r) ss)), sB (boxN i O (nonN 3 r) kk (bodyN X)), .bool true])), (4, s_ 0 (.cells (cn .u8 (List.replicate 16 0)) 32)), (0, b_ 0)] 22 [] [15] (⟨(callP_of en_parts (fun w => by have h0 := parts_any ((ownN (nmN R r) ss) ++ (boxN i O (nonN 3 r) kk (bodyN X))) (app_lt (own_ok hs.2.2.1 (nmN_ok R r)).2 (boxN_lt i O (nonN 3 r) kk (bodyN_lt hX (by omega)))) w; rw [parts_cat (own_ok hs.2.2.1 (nmN_ok R r)).1 (by rw [boxN_len, bodyN_len (by omega)])] at h0; exact h0) _), (by kernel_rfl), fun bi => ⟨rfl, ((cn_size _ _).trans (List.length_replicate ..)), ((cn_size _ _).trans (own_ok hs.2.2.1 (nmN_ok R r)).1), (cn_one _ _), rfl, fun _ _ FF29 MM29 => then_n ?_⟩⟩))
    refine wp_seq (rg_c FF29 MM29 [(1, t_ (.tuple #[.agg (cn .u8 (ownN (nmN R r) ss)), sB (boxN i J (nonN 3 r) kk (bodyN Y)), .bool true])), (4, s_ 0 (.cells (cn .u8 (List.replicate 16 0)) 32)), (0, b_ 0)] 25 [] [17] (⟨(callP_of en_parts (fun w => by have h0 := parts_any ((ownN (nmN R r) ss) ++ (boxN i J (nonN 3 r) kk (bodyN Y))) (app_lt (own_ok hs.2.2.1 (nmN_ok R r)).2 (boxN_lt i J (nonN 3 r) kk (bodyN_lt hY (by omega)))) w; rw [parts_cat (own_ok hs.2.2.1 (nmN_ok R r)).1 (by rw [boxN_len, bodyN_len (by omega)])] at h0; exact h0) _), (by kernel_rfl), fun bj => ⟨rfl, ((cn_size _ _).trans (List.length_replicate ..)), ((cn_size _ _).trans (own_ok hs.2.2.1 (nmN_ok R r)).1), (cn_one _ _), rfl, fun _ _ FF30 MM30 => then_n ?_⟩⟩))
    refine wp_seq (rg_c FF30 MM30 [(1, b_ 2), (2, c_ (.tuple #[sB X, .bool true]) [(4, oC #[.bool i, pT gt, .map (some k1), .map (some k2), .map (some k3), iN 0] 73)])] 27 [] [20] (⟨rfl, (by simp [cn_size, hJ.1, hO.1, hR.1]), (callU_B [4, 5, 6, 7] en_hear rfl rfl (fun w Hw => hear_any J O R X (boxN i O (nonN 3 r) kk (bodyN X)) r ⟨hJ.1, hJ.2⟩ ⟨hO.1, hO.2⟩ ⟨hR.1, hR.2⟩ hr hX (by omega) hs.1 (OkQ.note (okQ_nil.note hO ⟨nonN_len _ _, nonN_lt _ _⟩ (bodyN_lt hX (by omega)) (by rw [bodyN_len (by omega)]; decide)) hJ ⟨nonN_len _ _, nonN_lt _ _⟩ (bodyN_lt hY (by omega)) (by rw [bodyN_len (by omega)]; decide)) (boxN_lt i O (nonN 3 r) kk (bodyN_lt hX (by omega))) (by rw [boxN_len, bodyN_len (by omega)]; decide) (by decide) (box_opens fun v hv => (note_ne (fun e => hE e.symm) _).trans (note_get hv _)) w Hw (distinct_names rfl (distinct_at MM30.distinct (is := [4, 5, 6, 7]) rfl rfl)))), fun _ _ FF31 MM31 => then_n ?_⟩))
    refine wp_seq (rg_c FF31 MM31 [(1, b_ 3), (2, c_ (.tuple #[sB Y, .bool true]) [(4, oC #[.bool i, pT gt, .map (some k1), .map (some k2), .map (some k3), iN 0] 73)])] 29 [] [23] (⟨rfl, (by simp [cn_size, hO.1, hJ.1, hR.1]), (callU_B [4, 5, 6, 7] en_hear rfl rfl (fun w Hw => hear_any O J R Y (boxN i J (nonN 3 r) kk (bodyN Y)) r ⟨hO.1, hO.2⟩ ⟨hJ.1, hJ.2⟩ ⟨hR.1, hR.2⟩ hr hY (by omega) hs.1 (OkQ.note (okQ_nil.note hO ⟨nonN_len _ _, nonN_lt _ _⟩ (bodyN_lt hX (by omega)) (by rw [bodyN_len (by omega)]; decide)) hJ ⟨nonN_len _ _, nonN_lt _ _⟩ (bodyN_lt hY (by omega)) (by rw [bodyN_len (by omega)]; decide)) (boxN_lt i J (nonN 3 r) kk (bodyN_lt hY (by omega))) (by rw [boxN_len, bodyN_len (by omega)]; decide) (by decide) (box_opens fun v hv => note_get hv _) w Hw (distinct_names rfl (distinct_at MM31.distinct (is := [4, 5, 6, 7]) rfl rfl)))), fun _ _ FF32 MM32 => then_n ?_⟩))
    refine wp_seq (rg_c FF32 MM32 [(1, w_ 2), (2, w_ 2), (8, b_ 1), (0, b_ 0), (0, f_ (.bool true)), (3, w_ 1), (0, l_ 11 (sB X)), (0, w_ 2), (6, w_ 1), (0, l_ 11 (sB Y)), (0, w_ 2), (6, u_ 1 (iN 0)), (0, w_ 2), (2, u_ 1 (.bool true))] 14 [22, 19] [] (⟨rfl, rfl, rfl, ((cn_size _ _).trans (own_ok hs.2.2.1 (nmN_ok R r)).1), rfl, ((cn_size _ _).trans (own_ok hs.2.2.1 (nmN_ok R r)).1), (eqA_ok (t := 32) (t' := 32) (e := 5) (m := 16) (k := .u8) (x := (.tmp 150)) (y := (.tmp 151)) (by kernel_rfl) Tryz.underlying32 Tryz.underlying5 (by kernel_rfl) (by kernel_rfl) (by kernel_rfl) rfl rfl (own_ok hs.2.2.1 (nmN_ok R r)).1 (own_ok hs.2.2.1 (nmN_ok R r)).1 (decide_eq_true rfl)), by decide, rfl, rfl, rfl, by decide, rfl, rfl, rfl, (callP_B [4] en_pforged rfl (fun w Hw => pforged_any w Hw (distinct_names rfl (distinct_at MM32.distinct (is := [4]) rfl rfl)))), rfl, ⟨en_wakes, fun w Hw => wakes16 Tg fg w (Hw 13 _ rfl)⟩, fun _ _ FF33 MM33 => then_n ?_⟩))
    refine wp_ret ?_
    repeat first | refine then_ret ?_ | refine inb_ret ?_
    exact (ret_fr FF33 0 Tryz.results4 rfl ⟨rfl, MM33.below1 13 rfl hg⟩)
end Go.Proofs.YtdjpacgjhcidpabGreatDoor
namespace Go.Proofs.YtdjpacgjhcidpabGreatDoor
open Go.RowKit
theorem laid_mem {P : Program} {W : World} : ∀ (laid : List (String × DataW Unit)) (ps : List MemPlace), DataW.LaidVars P W laid ps → ∀ x ∈ laid, ∃ g t cs fuel p, P.globalNamed x.1 = some g ∧ (P.globals[g]?).map (·.type) = some t ∧ W.var? P x.1 = some cs ∧ DataW.trod (fun _ => ()) P W 0 (fun _ => true) false fuel t cs.toList = some (x.2, p)
  | [], _, _, _, hx => by cases hx
  | (n, d) :: r, ps, h, x, hx => by
    obtain ⟨g, t, cs, fuel, p, q, h1, h2, h3, h4, h5, _⟩ := h
    rcases List.mem_cons.1 hx with rfl | hx
    · exact ⟨g, t, cs, fuel, p, h1, h2, h3, h4⟩
    · exact laid_mem r q h5 x hx
/-- A table of numbers that is laid lies in its block. -/
theorem tab_of {P : Program} {W : World} {laid : List (String × DataW Unit)} {n : String} {D : DataW Unit} {g : Nat} {t e : TypeId} {m : Nat} {k : IntKind} {K : List Nat} (h : laidMetH P laid W) (hH : (laid.all fun x => x.2.handleName?.isNone) = true) (hx : (n, D) ∈ laid)
    (hg : P.globalNamed n = some g) (ht : (P.globals[g]?).map (·.type) = some t) (hu : P.underlying t = some (.array m e)) (he : P.underlying e = some (.int k)) (hc : P.cellsOf e = 1) (hct : P.cellsOf t = m) (hD : D = .agg (K.map fun (x : Nat) => .lit (.int k (x : Int)))) (hK : K.length = m) :
    ∃ T fr, W.heap[g]? = some (.cells (cn k K) T fr) := by
  rw [MakeChecks.laidMetH_plain _ _ _ hH] at h
  obtain ⟨ps, hl, _⟩ := h
  obtain ⟨g', t', cs, fuel, p, h1, h2, h3, h4⟩ := laid_mem laid ps hl _ hx
  obtain rfl := Option.some.inj (hg.symm.trans h1)
  obtain rfl := Option.some.inj (ht.symm.trans h2)
  have hb : ∃ T fr, W.heap[g]? = some (.cells cs T fr) := by
    simp only [World.var?, hg, Option.bind_some] at h3
    split at h3
    · rename_i c T fr hb
      cases h3
      exact ⟨T, fr, hb⟩
    · cases h3
  obtain ⟨T, fr, hb⟩ := hb
  refine ⟨T, fr, ?_⟩
  rw [hb]
  obtain ⟨xs, m1, _, hx1, hlen, hn, hel⟩ := DataW.trod_array hu h4
  have hx2 : D = .agg (xs.map fun x => x.1) := (Prod.mk.inj hx1).1
  rw [hD] at hx2
  have hx3 : (K.map fun (x : Nat) => (DataW.lit (.int k (x : Int)) : DataW Unit)) = xs.map fun x => x.1 := by injection hx2
  have hcs : cs = cn k K := by
    refine Array.ext_getElem? fun i => ?_
    rcases Nat.lt_or_ge i m with hi | hi
    · have e1 := hel i hi
      have e2 : xs[i]? = some (xs[i]'(by omega)) := by simp
      rw [e2, hc] at e1
      obtain ⟨z, e3, e4, _⟩ := DataW.trod_int he e1
      have e5 := congrArg (fun l => l[i]?) hx3
      simp only [List.getElem?_map, e2, e4, List.getElem?_eq_getElem (show i < K.length by omega), Option.map_some, Option.some.injEq, DataW.lit.injEq, Lit.int.injEq] at e5
      have e6 := congrArg (fun l => l[0]?) e3
      rw [Nat.mul_one] at e6
      have e7 : cs[i]? = some (.int k z) := by simpa using e6
      rw [e7, cn_get k K i (by omega), ← e5.2]
      simp [show i < K.length by omega]
    · rw [Array.getElem?_eq_none (by rw [← Array.length_toList, hlen, hct]; exact hi), Array.getElem?_eq_none (by rw [cn_size, hK]; exact hi)]
  rw [hcs]
end Go.Proofs.YtdjpacgjhcidpabGreatDoor
