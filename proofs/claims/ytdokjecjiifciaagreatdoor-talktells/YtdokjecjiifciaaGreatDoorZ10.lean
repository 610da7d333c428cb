import Derived.Test.YtdokjecjiifciaaGreatDoorZ9
import Derived.Test.YtdokjecjiifciaaGreatDoorZ3
import Derived.Test.YtdokjecjiifciaaGreatDoorZ7
import Derived.Test.YtdokjecjiifciaaGreatDoorZ6
import Derived.Test.YtdokjecjiifciaaGreatDoorZ8
namespace Go.Proofs.YtdokjecjiifciaaGreatDoor
open Go.RowKit
set_option maxRecDepth 100000
theorem rpub_any (ks:List Nat)(hk:KBytes ks)(w0:World) :
  Calls Tryz.prog 53 #[.agg (cn .u8 ks)] w0 fun e w'=>e=.returned (.agg (cn .u8 (keyL (pubN ks))))∧Below w0.heap.size w0 w':=by
 refine eF Tryz.func53 rfl Tryz.ntmps53 (by simp) fun ac (FF:Fr 6 ac [(0,.agg (cn .u8 ks))])=>?_
 have MM:=MemS.start w0
 refine wp_seq (rg_c FF MM [(0,s_ 0 (.cells (cn .u8 ks) 51)),(0,s_ 0 (.cells (cn .u8 (List.replicate 32 0)) 51))] 3 [] [0] (⟨(by kernel_rfl),fun bk=>⟨(by kernel_rfl),fun br=>fun _ _ FF1 MM1=>tN ?_⟩⟩))
 refine wp_seq (rg_c FF1 MM1 [(0,b_ 1),(0,t_ (.agg (cn .u8 nine32))),(0,t_ (.agg (cn .u8 (keyL (curveN ks nine32))))),(0,b_ 0)] 0 [2] [] (⟨rfl,((cZ _ _).trans hk.1),(Eq.trans (show _=some (cn .u8 ([9,0,0,0,0,0,0,0,0,0,0,0,0,0,0,0,0,0,0,0,0,0,0,0,0,0,0,0,0,0,0,0]))by kernel_rfl) (congrArg some (Value.agg.inj rfl))),(cP en_rCurve (rcurve_any ks nine32 ⟨hk.1,hk.2⟩ ⟨nine32_ok.1,nine32_ok.2⟩) _),rfl,((cZ _ _).trans (List.length_replicate ..)),((cZ _ _).trans (keyL_bytes (curveN ks nine32)).1),(cn_one _ _),rfl,fun _ _ FF2 MM2=>tN ?_⟩))
 refine wp_ret ?_
 repeat first | refine tR ?_ | refine iR ?_
 exact(retc FF2 MM2 (k:=32) (i:=0) (j:=0) Tryz.results53 rfl rfl Tryz.underlying51 rfl (by kernel_rfl) ((cZ _ _).trans (keyL_bytes (curveN ks nine32)).1) ⟨rfl,MM2.below⟩)
theorem rshared_any (ks us:List Nat)(hk:KBytes ks)(hu:KBytes us)(w0:World) :
  Calls Tryz.prog 54 #[.agg (cn .u8 ks),.agg (cn .u8 us)] w0 fun e w'=>e=.returned (.tuple #[.agg (cn .u8 (keyL (curveN ks us))),.bool (decide (curveN ks us≠0))])∧Below w0.heap.size w0 w':=by
 refine eF Tryz.func54 rfl Tryz.ntmps54 (by simp) fun ac (FF:Fr 14 ac [(0,.agg (cn .u8 ks)),(1,.agg (cn .u8 us))])=>?_
 have MM:=MemS.start w0
 refine wp_seq (rg_c FF MM [(0,s_ 0 (.cells (cn .u8 ks) 51)),(0,s_ 0 (.cells (cn .u8 us) 51)),(0,s_ 0 (.cells (cn .u8 (List.replicate 32 0)) 51))] 6 [] [0,1] (⟨(by kernel_rfl),fun bk=>⟨(by kernel_rfl),fun bu=>⟨(by kernel_rfl),fun br=>fun _ _ FF1 MM1=>tN ?_⟩⟩⟩))
 refine wp_seq (rg_c FF1 MM1 [(0,b_ 2),(0,b_ 1),(0,t_ (.agg (cn .u8 (keyL (curveN ks us))))),(0,s_ 0 (.cells (cn .u8 (List.replicate 32 0)) 51)),(0,b_ 0)] 7 [] [3,2] (⟨rfl,((cZ _ _).trans hk.1),rfl,((cZ _ _).trans hu.1),(cP en_rCurve (rcurve_any ks us ⟨hk.1,hk.2⟩ ⟨hu.1,hu.2⟩) _),(by kernel_rfl),fun bs=>⟨rfl,((cZ _ _).trans (List.length_replicate ..)),((cZ _ _).trans (keyL_bytes (curveN ks us)).1),(cn_one _ _),rfl,fun _ _ FF2 MM2=>tN ?_⟩⟩))
 by_cases hz:curveN ks us=0
 ·skip
  refine wp_mid (fun a' w'=>Fr 14 a' [(6,pT bs),(5,.bool false),(4,pT br)]∧MemS (fun k=>k<w0.heap.size) w0 w' [(bs,.cells (cn .u8 (keyL (curveN ks us))) 51),(br,.cells (cn .u8 (keyL (curveN ks us))) 51),(bu,.cells (cn .u8 us) 51),(bk,.cells (cn .u8 ks) 51)] []) ?_ ?_
  ·skip
   refine late_standT (N:=6) [(bs,.cells (cn .u8 (keyL (curveN ks us))) 51)] [] (by kernel_rfl) (by kernel_rfl) MM2 fun wq3 (MM4:MemS (fun k=>k<w0.heap.size) w0 wq3 [(bs,.cells (cn .u8 (keyL (curveN ks us))) 51),(br,.cells (cn .u8 (List.replicate 32 0)) 51),(bu,.cells (cn .u8 us) 51),(bk,.cells (cn .u8 ks) 51)] [])=>?_
   refine lT FF2 (i:=0) (oi:=(opAt Tryz.f54 2 0)) (v:=(.agg (cn .u8 (keyL (curveN ks us))))) (d:=10) (atL_has (is:=[0]) rfl MM4.hasL) (by kernel_rfl) (by kernel_rfl) (by kernel_rfl) (by kernel_rfl) (by kernel_rfl) (fun _ _ _ _ _ h=>h) (by kernel_rfl) (by decide) (by kernel_rfl) (loadRi (x:=(.tmp 6)) (k:=0) (m:=32) (by kernel_rfl) rfl Tryz.underlying51 rfl (by kernel_rfl) rfl ((cZ _ _).trans (keyL_bytes (curveN ks us)).1)) fun _ FF5=>?_
   refine lT FF5 (i:=1) (oi:=(opAt Tryz.f54 2 1)) (v:=(.agg (cn .u8 (keyL (curveN ks us))))) (d:=11) (atL_has (is:=[0]) rfl MM4.hasL) (by kernel_rfl) (by kernel_rfl) (by kernel_rfl) (by kernel_rfl) (by kernel_rfl) (fun _ _ _ _ _ h=>h) (by kernel_rfl) (by decide) (by kernel_rfl) (loadRi (x:=(.tmp 6)) (k:=0) (m:=32) (by kernel_rfl) rfl Tryz.underlying51 rfl (by kernel_rfl) rfl ((cZ _ _).trans (keyL_bytes (curveN ks us)).1)) fun _ FF6=>?_
   refine late_two (i:=2) (oi:=(opAt Tryz.f54 2 2)) (j:=4) (oj:=(opAt Tryz.f54 2 4)) (by kernel_rfl) (by kernel_rfl) (by kernel_rfl) ?_ ?_
   ·skip
    refine rp_c 1 FF6 MM4 [(0,t_ (.agg (cn .u8 zero32)))] 13 [] [] (⟨(Eq.trans (show _=some (cn .u8 (List.replicate 32 0))by kernel_rfl) (congrArg some (Value.agg.inj rfl))),fun _ _ FF7 MM7=>?_⟩)
    refine wpl_nil (onN_n ⟨fun _=>(atL_has (is:=[0]) rfl MM7.hasL),?_⟩)
    refine late_two (i:=3) (oi:=(opAt Tryz.f54 2 3)) (j:=4) (oj:=(opAt Tryz.f54 2 4)) (by kernel_rfl) (by kernel_rfl) (by kernel_rfl) ?_ ?_
    ·skip
     refine rp_c 1 FF7 MM7 [(0,f_ (.bool false))] 11 [13] [] (⟨(neqA_ok (t:=51) (t':=51) (e:=5) (m:=32) (k:=.u8) (x:=(.tmp 11)) (y:=(.tmp 12)) (by kernel_rfl) Tryz.underlying51 Tryz.underlying5 (by kernel_rfl) (by kernel_rfl) (by kernel_rfl) rfl rfl (keyL_bytes (curveN ks us)).1 zero32_ok.1 (decide_eq_false (fun h=>h (by rw [hz];exact keyL_zero)))),fun _ _ FF8 MM8=>?_⟩)
     refine wpl_nil (onN_n ⟨fun _=>(atL_has (is:=[0]) rfl MM8.hasL),?_⟩)
     refine lO (i:=4) (oi:=(opAt Tryz.f54 2 4)) (by kernel_rfl) (by kernel_rfl) ?_
     refine rp_c 1 FF8 MM8 [(0,b_ 1)] 7 [13] [] (⟨rfl,((cZ _ _).trans (List.length_replicate ..)),((cZ _ _).trans (keyL_bytes (curveN ks us)).1),(cn_one _ _),rfl,fun _ _ FF9 MM9=>?_⟩)
     refine wpl_nil (onN_n ⟨fun _=>(atL_has (is:=[0]) rfl MM9.hasL),?_⟩)
     refine lO (i:=5) (oi:=(opAt Tryz.f54 2 5)) (by kernel_rfl) (by kernel_rfl) ?_
     refine rp_c 1 FF9 MM9 [] 7 [] [] (fun _ _ FF10 MM10=>?_)
     refine wpl_nil (onN_n ⟨fun _=>(atL_has (is:=[0]) rfl MM10.hasL),?_⟩)
     refine late_none (by kernel_rfl) (tN ?_)
     exact⟨FF10.pick [1,0,2],MM10⟩
    ·skip
     refine rp_c 1 FF7 MM7 [(0,b_ 1)] 13 [] [10] (⟨rfl,((cZ _ _).trans (List.length_replicate ..)),((cZ _ _).trans (keyL_bytes (curveN ks us)).1),(cn_one _ _),rfl,fun _ _ FF11 MM11=>?_⟩)
     refine wpl_nil (onN_n ⟨fun _=>(atL_has (is:=[0]) rfl MM11.hasL),?_⟩)
     refine lO (i:=3) (oi:=(opAt Tryz.f54 2 3)) (by kernel_rfl) (by kernel_rfl) ?_
     refine rp_c 1 FF11 MM11 [(0,f_ (.bool false))] 7 [13] [] (⟨(neqA_ok (t:=51) (t':=51) (e:=5) (m:=32) (k:=.u8) (x:=(.tmp 11)) (y:=(.tmp 12)) (by kernel_rfl) Tryz.underlying51 Tryz.underlying5 (by kernel_rfl) (by kernel_rfl) (by kernel_rfl) rfl rfl (keyL_bytes (curveN ks us)).1 zero32_ok.1 (decide_eq_false (fun h=>h (by rw [hz];exact keyL_zero)))),fun _ _ FF12 MM12=>?_⟩)
     refine wpl_nil (onN_n ⟨fun _=>(atL_has (is:=[0]) rfl MM12.hasL),?_⟩)
     refine lO (i:=5) (oi:=(opAt Tryz.f54 2 5)) (by kernel_rfl) (by kernel_rfl) ?_
     refine rp_c 1 FF12 MM12 [] 7 [] [] (fun _ _ FF13 MM13=>?_)
     refine wpl_nil (onN_n ⟨fun _=>(atL_has (is:=[0]) rfl MM13.hasL),?_⟩)
     refine late_none (by kernel_rfl) (tN ?_)
     exact⟨FF13.pick [1,0,2],MM13⟩
   ·skip
    refine rp_c 1 FF6 MM4 [(0,b_ 1)] 7 [11] [] (⟨rfl,((cZ _ _).trans (List.length_replicate ..)),((cZ _ _).trans (keyL_bytes (curveN ks us)).1),(cn_one _ _),rfl,fun _ _ FF14 MM14=>?_⟩)
    refine wpl_nil (onN_n ⟨fun _=>(atL_has (is:=[0]) rfl MM14.hasL),?_⟩)
    refine lO (i:=2) (oi:=(opAt Tryz.f54 2 2)) (by kernel_rfl) (by kernel_rfl) ?_
    refine rp_c 1 FF14 MM14 [(0,t_ (.agg (cn .u8 zero32)))] 13 [] [] (⟨(Eq.trans (show _=some (cn .u8 (List.replicate 32 0))by kernel_rfl) (congrArg some (Value.agg.inj rfl))),fun _ _ FF15 MM15=>?_⟩)
    refine wpl_nil (onN_n ⟨fun _=>(atL_has (is:=[0]) rfl MM15.hasL),?_⟩)
    refine lO (i:=3) (oi:=(opAt Tryz.f54 2 3)) (by kernel_rfl) (by kernel_rfl) ?_
    refine rp_c 1 FF15 MM15 [(0,f_ (.bool false))] 7 [13] [] (⟨(neqA_ok (t:=51) (t':=51) (e:=5) (m:=32) (k:=.u8) (x:=(.tmp 11)) (y:=(.tmp 12)) (by kernel_rfl) Tryz.underlying51 Tryz.underlying5 (by kernel_rfl) (by kernel_rfl) (by kernel_rfl) rfl rfl (keyL_bytes (curveN ks us)).1 zero32_ok.1 (decide_eq_false (fun h=>h (by rw [hz];exact keyL_zero)))),fun _ _ FF16 MM16=>?_⟩)
    refine wpl_nil (onN_n ⟨fun _=>(atL_has (is:=[0]) rfl MM16.hasL),?_⟩)
    refine lO (i:=5) (oi:=(opAt Tryz.f54 2 5)) (by kernel_rfl) (by kernel_rfl) ?_
    refine rp_c 1 FF16 MM16 [] 7 [] [] (fun _ _ FF17 MM17=>?_)
    refine wpl_nil (onN_n ⟨fun _=>(atL_has (is:=[0]) rfl MM17.hasL),?_⟩)
    refine late_none (by kernel_rfl) (tN ?_)
    exact⟨FF17.pick [1,0,2],MM17⟩
  ·rintro ac18 wd18 ⟨FF18,MM18⟩
   refine wp_ret ?_
   repeat first | refine tR ?_ | refine iR ?_
   exact(ret_ct FF18 MM18 (k:=32) (i:=1) (j:=2) (m:=1) Tryz.results54 rfl rfl rfl Tryz.underlying51 rfl (by kernel_rfl) ((cZ _ _).trans (keyL_bytes (curveN ks us)).1) ⟨by rw [hz];rfl,MM18.below⟩)
 ·skip
  refine wp_mid (fun a' w'=>Fr 14 a' [(6,pT bs),(5,.bool true),(4,pT br)]∧MemS (fun k=>k<w0.heap.size) w0 w' [(bs,.cells (cn .u8 (keyL (curveN ks us))) 51),(br,.cells (cn .u8 (keyL (curveN ks us))) 51),(bu,.cells (cn .u8 us) 51),(bk,.cells (cn .u8 ks) 51)] []) ?_ ?_
  ·skip
   refine late_standT (N:=6) [(bs,.cells (cn .u8 (keyL (curveN ks us))) 51)] [] (by kernel_rfl) (by kernel_rfl) MM2 fun wq19 (MM20:MemS (fun k=>k<w0.heap.size) w0 wq19 [(bs,.cells (cn .u8 (keyL (curveN ks us))) 51),(br,.cells (cn .u8 (List.replicate 32 0)) 51),(bu,.cells (cn .u8 us) 51),(bk,.cells (cn .u8 ks) 51)] [])=>?_
   refine lT FF2 (i:=0) (oi:=(opAt Tryz.f54 2 0)) (v:=(.agg (cn .u8 (keyL (curveN ks us))))) (d:=10) (atL_has (is:=[0]) rfl MM20.hasL) (by kernel_rfl) (by kernel_rfl) (by kernel_rfl) (by kernel_rfl) (by kernel_rfl) (fun _ _ _ _ _ h=>h) (by kernel_rfl) (by decide) (by kernel_rfl) (loadRi (x:=(.tmp 6)) (k:=0) (m:=32) (by kernel_rfl) rfl Tryz.underlying51 rfl (by kernel_rfl) rfl ((cZ _ _).trans (keyL_bytes (curveN ks us)).1)) fun _ FF21=>?_
   refine lT FF21 (i:=1) (oi:=(opAt Tryz.f54 2 1)) (v:=(.agg (cn .u8 (keyL (curveN ks us))))) (d:=11) (atL_has (is:=[0]) rfl MM20.hasL) (by kernel_rfl) (by kernel_rfl) (by kernel_rfl) (by kernel_rfl) (by kernel_rfl) (fun _ _ _ _ _ h=>h) (by kernel_rfl) (by decide) (by kernel_rfl) (loadRi (x:=(.tmp 6)) (k:=0) (m:=32) (by kernel_rfl) rfl Tryz.underlying51 rfl (by kernel_rfl) rfl ((cZ _ _).trans (keyL_bytes (curveN ks us)).1)) fun _ FF22=>?_
   refine late_two (i:=2) (oi:=(opAt Tryz.f54 2 2)) (j:=4) (oj:=(opAt Tryz.f54 2 4)) (by kernel_rfl) (by kernel_rfl) (by kernel_rfl) ?_ ?_
   ·skip
    refine rp_c 1 FF22 MM20 [(0,t_ (.agg (cn .u8 zero32)))] 13 [] [] (⟨(Eq.trans (show _=some (cn .u8 (List.replicate 32 0))by kernel_rfl) (congrArg some (Value.agg.inj rfl))),fun _ _ FF23 MM23=>?_⟩)
    refine wpl_nil (onN_n ⟨fun _=>(atL_has (is:=[0]) rfl MM23.hasL),?_⟩)
    refine late_two (i:=3) (oi:=(opAt Tryz.f54 2 3)) (j:=4) (oj:=(opAt Tryz.f54 2 4)) (by kernel_rfl) (by kernel_rfl) (by kernel_rfl) ?_ ?_
    ·skip
     refine rp_c 1 FF23 MM23 [(0,f_ (.bool true))] 11 [13] [] (⟨(neqA_ok (t:=51) (t':=51) (e:=5) (m:=32) (k:=.u8) (x:=(.tmp 11)) (y:=(.tmp 12)) (by kernel_rfl) Tryz.underlying51 Tryz.underlying5 (by kernel_rfl) (by kernel_rfl) (by kernel_rfl) rfl rfl (keyL_bytes (curveN ks us)).1 zero32_ok.1 (decide_eq_true (keyL_ne (curveN_lt ks us) hz))),fun _ _ FF24 MM24=>?_⟩)
     refine wpl_nil (onN_n ⟨fun _=>(atL_has (is:=[0]) rfl MM24.hasL),?_⟩)
     refine lO (i:=4) (oi:=(opAt Tryz.f54 2 4)) (by kernel_rfl) (by kernel_rfl) ?_
     refine rp_c 1 FF24 MM24 [(0,b_ 1)] 7 [13] [] (⟨rfl,((cZ _ _).trans (List.length_replicate ..)),((cZ _ _).trans (keyL_bytes (curveN ks us)).1),(cn_one _ _),rfl,fun _ _ FF25 MM25=>?_⟩)
     refine wpl_nil (onN_n ⟨fun _=>(atL_has (is:=[0]) rfl MM25.hasL),?_⟩)
     refine lO (i:=5) (oi:=(opAt Tryz.f54 2 5)) (by kernel_rfl) (by kernel_rfl) ?_
     refine rp_c 1 FF25 MM25 [] 7 [] [] (fun _ _ FF26 MM26=>?_)
     refine wpl_nil (onN_n ⟨fun _=>(atL_has (is:=[0]) rfl MM26.hasL),?_⟩)
     refine late_none (by kernel_rfl) (tN ?_)
     exact⟨FF26.pick [1,0,2],MM26⟩
    ·skip
     refine rp_c 1 FF23 MM23 [(0,b_ 1)] 13 [] [10] (⟨rfl,((cZ _ _).trans (List.length_replicate ..)),((cZ _ _).trans (keyL_bytes (curveN ks us)).1),(cn_one _ _),rfl,fun _ _ FF27 MM27=>?_⟩)
     refine wpl_nil (onN_n ⟨fun _=>(atL_has (is:=[0]) rfl MM27.hasL),?_⟩)
     refine lO (i:=3) (oi:=(opAt Tryz.f54 2 3)) (by kernel_rfl) (by kernel_rfl) ?_
     refine rp_c 1 FF27 MM27 [(0,f_ (.bool true))] 7 [13] [] (⟨(neqA_ok (t:=51) (t':=51) (e:=5) (m:=32) (k:=.u8) (x:=(.tmp 11)) (y:=(.tmp 12)) (by kernel_rfl) Tryz.underlying51 Tryz.underlying5 (by kernel_rfl) (by kernel_rfl) (by kernel_rfl) rfl rfl (keyL_bytes (curveN ks us)).1 zero32_ok.1 (decide_eq_true (keyL_ne (curveN_lt ks us) hz))),fun _ _ FF28 MM28=>?_⟩)
     refine wpl_nil (onN_n ⟨fun _=>(atL_has (is:=[0]) rfl MM28.hasL),?_⟩)
     refine lO (i:=5) (oi:=(opAt Tryz.f54 2 5)) (by kernel_rfl) (by kernel_rfl) ?_
     refine rp_c 1 FF28 MM28 [] 7 [] [] (fun _ _ FF29 MM29=>?_)
     refine wpl_nil (onN_n ⟨fun _=>(atL_has (is:=[0]) rfl MM29.hasL),?_⟩)
     refine late_none (by kernel_rfl) (tN ?_)
     exact⟨FF29.pick [1,0,2],MM29⟩
   ·skip
    refine rp_c 1 FF22 MM20 [(0,b_ 1)] 7 [11] [] (⟨rfl,((cZ _ _).trans (List.length_replicate ..)),((cZ _ _).trans (keyL_bytes (curveN ks us)).1),(cn_one _ _),rfl,fun _ _ FF30 MM30=>?_⟩)
    refine wpl_nil (onN_n ⟨fun _=>(atL_has (is:=[0]) rfl MM30.hasL),?_⟩)
    refine lO (i:=2) (oi:=(opAt Tryz.f54 2 2)) (by kernel_rfl) (by kernel_rfl) ?_
    refine rp_c 1 FF30 MM30 [(0,t_ (.agg (cn .u8 zero32)))] 13 [] [] (⟨(Eq.trans (show _=some (cn .u8 (List.replicate 32 0))by kernel_rfl) (congrArg some (Value.agg.inj rfl))),fun _ _ FF31 MM31=>?_⟩)
    refine wpl_nil (onN_n ⟨fun _=>(atL_has (is:=[0]) rfl MM31.hasL),?_⟩)
    refine lO (i:=3) (oi:=(opAt Tryz.f54 2 3)) (by kernel_rfl) (by kernel_rfl) ?_
    refine rp_c 1 FF31 MM31 [(0,f_ (.bool true))] 7 [13] [] (⟨(neqA_ok (t:=51) (t':=51) (e:=5) (m:=32) (k:=.u8) (x:=(.tmp 11)) (y:=(.tmp 12)) (by kernel_rfl) Tryz.underlying51 Tryz.underlying5 (by kernel_rfl) (by kernel_rfl) (by kernel_rfl) rfl rfl (keyL_bytes (curveN ks us)).1 zero32_ok.1 (decide_eq_true (keyL_ne (curveN_lt ks us) hz))),fun _ _ FF32 MM32=>?_⟩)
    refine wpl_nil (onN_n ⟨fun _=>(atL_has (is:=[0]) rfl MM32.hasL),?_⟩)
    refine lO (i:=5) (oi:=(opAt Tryz.f54 2 5)) (by kernel_rfl) (by kernel_rfl) ?_
    refine rp_c 1 FF32 MM32 [] 7 [] [] (fun _ _ FF33 MM33=>?_)
    refine wpl_nil (onN_n ⟨fun _=>(atL_has (is:=[0]) rfl MM33.hasL),?_⟩)
    refine late_none (by kernel_rfl) (tN ?_)
    exact⟨FF33.pick [1,0,2],MM33⟩
  ·rintro ac34 wd34 ⟨FF34,MM34⟩
   refine wp_ret ?_
   repeat first | refine tR ?_ | refine iR ?_
   exact(ret_ct FF34 MM34 (k:=32) (i:=1) (j:=2) (m:=1) Tryz.results54 rfl rfl rfl Tryz.underlying51 rfl (by kernel_rfl) ((cZ _ _).trans (keyL_bytes (curveN ks us)).1) ⟨by rw [decide_eq_true hz],MM34.below⟩)
theorem cvL_cd (m r:Nat):cvL m r 17 0=cdL (fun i=>cv m r i 17) 0:=by
 refine ext_getD (by rw [cvL_len,cdL_len]) fun i hi=>?_
 rw [cvL_len]at hi
 rw [cvL_get _ _ _ _ hi,cdL_get _ _ hi,if_pos hi,if_neg (by omega)]
theorem low_eq (N:Nat):N%1361129467683753853853498429727072845824+N/340282366920938463463374607431768211456/4*5=py_foldN N:=by
 unfold py_foldN;rw [Nat.div_div_eq_div_mul];omega
theorem dig_lt {M:Nat}(h:M<1569275433846670190958947355801916604025588861116008628224)(i:Nat):(dig M).getD i 0<4611686018427387904:=by
 rcases Nat.lt_or_ge i 16 with h1 | h1
 ·rw [dig_lo M h1];have:=Nat.mod_lt (M/256^i) (show 256>0 by decide);omega
 ·rcases Nat.lt_or_ge i 17 with h2 | h2
  ·obtain rfl:i=16:=by omega
   rw [dig_hi];omega
  ·rw [List.getD_eq_getElem?_getD,List.getElem?_eq_none (by rw [dig_len];exact h2)];decide
theorem radd_any (m n:Nat)(hm:m<1569275433846670190958947355801916604025588861116008628224)(hn:n<1569275433846670190958947355801916604025588861116008628224)(w0:World) :
  Calls Tryz.prog 184 #[.agg (cn .u64 (dig m)),.agg (cn .u64 (dig n))] w0 fun e w'=>e=.returned (.agg (cn .u64 (dAdd m n 17)))∧Below w0.heap.size w0 w':=by
 refine eF Tryz.func184 rfl Tryz.ntmps184 (by simp) fun ac (FF:Fr 32 ac [(0,.agg (cn .u64 (dig m))),(1,.agg (cn .u64 (dig n)))])=>?_
 have MM:=MemS.start w0
 refine wp_seq (rg_c FF MM [(0,s_ 0 (.cells (cn .u64 (dig m)) 293)),(0,s_ 0 (.cells (cn .u64 (dig n)) 293)),(0,s_ 0 (.cells (cn .u64 (List.replicate 17 0)) 293))] 5 [] [0,1] (⟨(by kernel_rfl),fun ba=>⟨(by kernel_rfl),fun bb=>⟨(by kernel_rfl),fun bc=>fun _ wd1 FF1 MM1=>tN ?_⟩⟩⟩))
 have MMr3:MemS (fun k=>k<w0.heap.size) w0 wd1 [(bc,.cells (cn .u64 (List.replicate 17 0)) 293),(bb,.cells (cn .u64 (dig n)) 293),(ba,.cells (cn .u64 (dAdd m n 0)) 293)] []:=by rw [dAdd_zero m n];exact MM1
 refine wp_seq (rg_c FF1 MMr3 [] 6 [] [] (fun _ _ FF2 MM2=>tN ?_))
 refine wp_seq ?_
 refine wp_seq (rg_c FF2 MM2 [] 7 [] [] (fun _ _ FF3 MM3=>tN ?_))
 refine wp_for2 (fun a' w'=>∃j:Nat,∃c:Nat,j≤17∧(j≤16→c=carB m n j)∧c<13835058055282163714∧Fr 32 a' [(6,iN j),(5,iW c),(4,pT bc),(3,pT bb),(2,pT ba)]∧MemS (fun k=>k<w0.heap.size) w0 w' [(bc,.cells (cn .u64 (List.replicate 17 0)) 293),(bb,.cells (cn .u64 (dig n)) 293),(ba,.cells (cn .u64 (dAdd m n j)) 293)] []) (fun a' _=>(17-cnt 6 a').toNat) ⟨0,0,by omega,fun _=>(car_zero m n).symm,by decide,FF3.pick [0,1,2,3,4],MM3⟩ ?_
 rintro ac4 wd4 ⟨j,c,hj,hcc,hcl,FF4,MM4⟩
 have hc:=cnt_of (FF4.get 0 rfl)
 refine rg_c FF4 MM4 [] 7 [8] [] (fun _ _ FF5 MM5=>?_)
 by_cases hlt:j<17
 ·skip
  refine tN (.inl ⟨(FF5.ev 0 rfl).trans (dec_t hlt),?_⟩)
  have h1:(dAdd m n j).getD j 0=(dig m).getD j 0:=by rw [dAdd_get _ _ _ hlt,if_neg (by omega)]
  have b1:(dig m).getD j 0<4611686018427387904:=dig_lt hm j
  have b2:(dig n).getD j 0<4611686018427387904:=dig_lt hn j
  have b3:c<2:=by rcases Nat.lt_or_ge 16 j with h | h;exact(by omega);rw [hcc h];exact car_lt m n j
  refine wp_seq (rg_dc 9 FF5 MM5 [(2,w_ 1),(0,l_ 2 (iW ((dig m).getD j 0))),(1,w_ 1),(0,l_ 1 (iW ((dig n).getD j 0))),(0,w_ 1),(0,w_ 1)] [] 7 [] [] (⟨by omega,rfl,((cn_get _ _ _ (by rw [dAdd_len];omega)).trans (by rw [h1])),by omega,rfl,(cn_get _ _ _ (by rw [(dig_len _)];omega)),by omega,by omega,fun _ _ FF6 MM6=>tN ?_⟩))
  refine wp_seq (rg_c FF6 MM6 [] 7 [21] [] (fun _ _ FF7 MM7=>tN ?_))
  by_cases hs21:j<16
  ·refine wp_cond_true ((FF7.ev 0 rfl).trans (dec_t hs21)) ?_
   refine wp_seq (rg_c FF7 MM7 [(2,t_ (iW ((c+(((dig m).getD j 0)+((dig n).getD j 0)))%256))),(0,w_ 1),(0,s_ 2 (.cells (cn .u64 (dAdd m n (j+1))) 293))] 7 [] [] (⟨by omega,by decide,(vI (and_low 8 _)),by omega,rfl,(by rw [cZ,(dAdd_len _ _ _)];omega),(.inl rfl),((cn_set _ _ _ _).trans (congrArg _ (dAdd_step m n j hlt (by rw [hcc (by omega),dig_lo m (by omega),dig_lo n (by omega),dig_lo _ (by omega)];exact car_digit m n j)))),fun _ _ FF8 MM8=>tN ?_⟩))
   refine rg_c FF8 MM8 [(1,t_ (iW ((c+(((dig m).getD j 0)+((dig n).getD j 0)))/256)))] 7 [] [] (⟨by decide,rfl,fun _ _ FF9 MM9=>?_⟩)
   refine inb_n (tN ?_)
   refine rg_c FF9 MM9 [] 7 [] [] (⟨by omega,fun _ _ FF10 MM10=>?_⟩)
   have hd:=cnt_of (FF10.get 0 rfl)
   refine tN ⟨⟨j+1,(c+(((dig m).getD j 0)+((dig n).getD j 0)))/256,by omega,fun _=>(by rw [hcc (by omega),dig_lo m (by omega),dig_lo n (by omega)];exact car_step m n j),by omega,FF10.pick [0,1,2,3,4],MM10⟩,?_⟩
   rw [hc,hd];omega
  ·refine wp_cond_false ((FF7.ev 0 rfl).trans (dec_f hs21)) ?_
   obtain rfl:j=16:=by omega
   refine rg_c FF7 MM7 [(2,w_ 1),(0,s_ 2 (.cells (cn .u64 (dAdd m n (16+1))) 293))] 7 [] [] (⟨by decide,rfl,(by rw [cZ,(dAdd_len _ _ _)];decide),(.inl rfl),((cn_set _ _ _ _).trans (congrArg _ (dAdd_step m n 16 hlt (by rw [hcc (by omega),dig_hi m,dig_hi n];exact dAdd_top m n)))),fun _ _ FF11 MM11=>?_⟩)
   refine inb_n (tN ?_)
   refine rg_c FF11 MM11 [] 7 [] [] (⟨by decide,fun _ _ FF12 MM12=>?_⟩)
   have hd:=cnt_of (FF12.get 0 rfl)
   refine tN ⟨⟨16+1,c+(((dig m).getD 16 0)+((dig n).getD 16 0)),by omega,fun h=>(by omega),by omega,FF12.pick [0,1,2,3,4],MM12⟩,?_⟩
   rw [hc,hd];omega
 ·skip
  refine tN (.inr ⟨(FF5.ev 0 rfl).trans (dec_f hlt),?_⟩)
  obtain rfl:j=17:=by omega
  refine tN ?_
  refine wp_seq (rg_c FF5 MM5 [(0,b_ 2),(0,b_ 0)] 7 [] [] (⟨rfl,((cZ _ _).trans (dAdd_len _ _ _)),rfl,((cZ _ _).trans (List.length_replicate ..)),((cZ _ _).trans (dAdd_len _ _ _)),(cn_one _ _),rfl,fun _ _ FF13 MM13=>tN ?_⟩))
  refine wp_ret ?_
  repeat first | refine tR ?_ | refine iR ?_
  exact(retc FF13 MM13 (k:=17) (i:=0) (j:=2) Tryz.results184 rfl rfl Tryz.underlying293 rfl (by kernel_rfl) ((cZ _ _).trans (dAdd_len _ _ _)) ⟨rfl,MM13.below⟩)
theorem radd_ok {m n:Nat}(hm:m<1569275433846670190958947355801916604025588861116008628224)(hn:n<1569275433846670190958947355801916604025588861116008628224)(L:Blks):CallP Tryz.prog 184 [.agg (cn .u64 (dig m)),.agg (cn .u64 (dig n))] L (.agg (cn .u64 (dig (m+n)))):=
 cP ent26 (fun w=>by have:=radd_any m n hm hn w;rwa [dAdd_all]at this) L
theorem low_any (m:Nat)(hm:m<182687704666362864775460604089535377456991567872)(w0:World) :
  Calls Tryz.prog 199 #[.agg (cn .u64 (dig m))] w0 fun e w'=>e=.returned (.agg (cn .u64 (dig (py_foldN m))))∧Below w0.heap.size w0 w':=by
 refine eF Tryz.func199 rfl Tryz.ntmps199 (by simp) fun ac (FF:Fr 29 ac [(0,.agg (cn .u64 (dig m)))])=>?_
 have MM:=MemS.start w0
 refine wp_seq (rg_c FF MM [(0,s_ 0 (.cells (cn .u64 (dig m)) 293)),(0,s_ 0 (.cells (cn .u64 (List.replicate 17 0)) 293))] 3 [] [0] (⟨(by kernel_rfl),fun b1=>⟨(by kernel_rfl),fun b2=>fun _ _ FF1 MM1=>tN ?_⟩⟩))
 refine wp_seq (rg_c FF1 MM1 [(0,w_ 1),(0,l_ 1 (iW (m/340282366920938463463374607431768211456))),(0,t_ (iW ((m/340282366920938463463374607431768211456)/4)))] 4 [] [] (⟨by decide,rfl,((cn_get _ _ _ (by rw [dig_len];decide)).trans (by rw [dig_hi])),by decide,rfl,fun _ _ FF2 MM2=>tN ?_⟩))
 refine wp_seq (rg_c FF2 MM2 [(0,w_ 1),(0,l_ 1 (iW (m/340282366920938463463374607431768211456))),(0,t_ (iW ((m/340282366920938463463374607431768211456)%4))),(0,w_ 1),(0,s_ 1 (.cells (cn .u64 (dig (m%1361129467683753853853498429727072845824))) 293))] 4 [] [] (⟨by decide,rfl,((cn_get _ _ _ (by rw [dig_len];decide)).trans (by rw [dig_hi])),by omega,by decide,(vI (and_low 2 _)),by decide,rfl,(by rw [cZ,(dig_len _)];decide),(.inl rfl),((cn_set _ _ _ _).trans (congrArg _ (low_cut m))),fun _ _ FF3 MM3=>tN ?_⟩))
 refine wp_seq (rg_c FF3 MM3 [(0,b_ 1),(1,w_ 1),(0,t_ (iW ((((m/340282366920938463463374607431768211456)/4)*5)%256))),(1,w_ 1),(0,t_ (iW ((((m/340282366920938463463374607431768211456)/4)*5)/256))),(0,t_ (iW (((((m/340282366920938463463374607431768211456)/4)*5)/256)%256))),(1,w_ 1),(0,t_ (iW ((((m/340282366920938463463374607431768211456)/4)*5)/65536))),(0,t_ (iW (((((m/340282366920938463463374607431768211456)/4)*5)/65536)%256))),(1,w_ 1),(0,t_ (iW ((((m/340282366920938463463374607431768211456)/4)*5)/16777216))),(0,t_ (iW (((((m/340282366920938463463374607431768211456)/4)*5)/16777216)%256))),(0,t_ (.agg (cn .u64 (dig (m/340282366920938463463374607431768211456/4*5))))),(0,t_ (.agg (cn .u64 (dig (py_foldN m))))),(0,b_ 0)] 3 [] [] (⟨rfl,((cZ _ _).trans (dig_len _)),by omega,by omega,by decide,(vI (and_low 8 _)),by omega,by decide,rfl,by omega,by decide,(vI (and_low 8 _)),by omega,by decide,rfl,by omega,by decide,(vI (and_low 8 _)),by omega,by decide,rfl,by omega,by decide,(vI (and_low 8 _)),(Eq.trans (show _=some (cn .u64 ([(((m/340282366920938463463374607431768211456)/4)*5)%256,((((m/340282366920938463463374607431768211456)/4)*5)/256)%256,((((m/340282366920938463463374607431768211456)/4)*5)/65536)%256,((((m/340282366920938463463374607431768211456)/4)*5)/16777216)%256,0,0,0,0,0,0,0,0,0,0,0,0,0]))by kernel_rfl) (congrArg some (Value.agg.inj (vA (congrArg (cn .u64) (low_five (m/340282366920938463463374607431768211456/4*5) (by omega)).symm))))),(by have h0:=radd_ok (m:=(m%1361129467683753853853498429727072845824)) (n:=(m/340282366920938463463374607431768211456/4*5)) (by omega) (by omega) [];rw [low_eq m]at h0;exact h0),rfl,((cZ _ _).trans (List.length_replicate ..)),((cZ _ _).trans (dig_len _)),(cn_one _ _),rfl,fun _ _ FF4 MM4=>tN ?_⟩))
 refine wp_ret ?_
 repeat first | refine tR ?_ | refine iR ?_
 exact(retc FF4 MM4 (k:=17) (i:=0) (j:=0) Tryz.results199 rfl rfl Tryz.underlying293 rfl (by kernel_rfl) ((cZ _ _).trans (dig_len _)) ⟨rfl,MM4.below⟩)
set_option maxHeartbeats 1000000 in
theorem rtimes_any (m r:Nat)(hm:m<340282366920938463463374607431768211456*256)(hr:r<340282366920938463463374607431768211456*256)(w0:World) :
  Calls Tryz.prog 183 #[.agg (cn .u64 (dig m)),.agg (cn .u64 (dig r))] w0 fun e w'=>e=.returned (.agg (cn .u64 (dig (prodN m r))))∧Below w0.heap.size w0 w':=by
 refine eF Tryz.func183 rfl Tryz.ntmps183 (by simp) fun ac (FF:Fr 75 ac [(0,.agg (cn .u64 (dig m))),(1,.agg (cn .u64 (dig r)))])=>?_
 have MM:=MemS.start w0
 refine wp_seq (rg_c FF MM [(0,s_ 0 (.cells (cn .u64 (dig m)) 293)),(0,s_ 0 (.cells (cn .u64 (dig r)) 293)),(0,s_ 0 (.cells (cn .u64 (List.replicate 17 0)) 293))] 5 [] [0,1] (⟨(by kernel_rfl),fun b1=>⟨(by kernel_rfl),fun b2=>⟨(by kernel_rfl),fun b3=>fun _ _ FF1 MM1=>tN ?_⟩⟩⟩))
 refine wp_seq (rg_c FF1 MM1 [(0,t_ (.agg (cn .u64 (List.replicate 17 0)))),(0,s_ 0 (.cells (cn .u64 (List.replicate 17 0)) 293)),(0,b_ 0)] 6 [] [] (⟨(by kernel_rfl),(by kernel_rfl),fun bx=>⟨rfl,((cZ _ _).trans (List.length_replicate ..)),((cZ _ _).trans (List.length_replicate ..)),(cn_one _ _),rfl,fun _ wd2 FF2 MM2=>tN ?_⟩⟩))
 have MMr4:MemS (fun k=>k<w0.heap.size) w0 wd2 [(bx,.cells (cn .u64 (cvL m r 0 0)) 293),(b3,.cells (cn .u64 (List.replicate 17 0)) 293),(b2,.cells (cn .u64 (dig r)) 293),(b1,.cells (cn .u64 (dig m)) 293)] []:=by rw [←cvL_start m r];exact MM2
 refine wp_seq ?_
 refine wp_seq (rg_c FF2 MMr4 [] 7 [] [] (fun _ _ FF3 MM3=>tN ?_))
 refine wp_for2 (fun a' w'=>∃i:Nat,i≤17∧Fr 75 a' [(6,iN i),(5,pT bx),(4,pT b3),(3,pT b2),(2,pT b1)]∧MemS (fun k=>k<w0.heap.size) w0 w' [(bx,.cells (cn .u64 (cvL m r i 0)) 293),(b3,.cells (cn .u64 (List.replicate 17 0)) 293),(b2,.cells (cn .u64 (dig r)) 293),(b1,.cells (cn .u64 (dig m)) 293)] []) (fun a' _=>(17-cnt 6 a').toNat) ⟨0,by omega,FF3.pick [0,1,2,3,4],MM3⟩ ?_
 rintro ac4 wd4 ⟨i,hi,FF4,MM4⟩
 have hci:=cnt_of (FF4.get 0 rfl)
 refine rg_c FF4 MM4 [] 7 [12] [] (fun _ _ FF5 MM5=>?_)
 by_cases hlti:i<17
 ·skip
  refine tN (.inl ⟨(FF5.ev 0 rfl).trans (dec_t hlti),?_⟩)
  refine wp_seq (rg_c FF5 MM5 [] 8 [] [] (fun _ _ FF6 MM6=>tN ?_))
  refine wp_for2 (fun a' w'=>∃j:Nat,j≤17∧Fr 75 a' [(7,iN j),(6,iN i),(5,pT bx),(4,pT b3),(3,pT b2),(2,pT b1)]∧MemS (fun k=>k<w0.heap.size) w0 w' [(bx,.cells (cn .u64 (cvL m r i j)) 293),(b3,.cells (cn .u64 (List.replicate 17 0)) 293),(b2,.cells (cn .u64 (dig r)) 293),(b1,.cells (cn .u64 (dig m)) 293)] []) (fun a' _=>(17-cnt 7 a').toNat) ⟨0,by omega,FF6.pick [0,1,2,3,4,5],MM6⟩ ?_
  rintro ac7 wd7 ⟨j,hj,FF7,MM7⟩
  have hcj:=cnt_of (FF7.get 0 rfl)
  refine rg_c FF7 MM7 [] 8 [16] [] (fun _ _ FF8 MM8=>?_)
  by_cases hltj:j<17
  ·skip
   refine tN (.inl ⟨(FF8.ev 0 rfl).trans (dec_t hltj),?_⟩)
   refine wp_seq (rg_c FF8 MM8 [] 8 [21] [] (fun _ _ FF9 MM9=>tN ?_))
   by_cases hs21:j≤i
   ·refine wp_cond_true ((FF9.ev 0 rfl).trans (dec_t hs21)) ?_
    have hcv:=cv_le hm hr i hj
    have ha:=py_dig_le hm j
    have hb:=py_dig_le hr (i-j)
    have hab:=Nat.mul_le_mul ha hb
    refine rg_dc 14 FF9 MM9 [(1,w_ 1),(0,l_ 0 (iW (cv m r i j))),(1,w_ 1),(0,l_ 3 (iW ((dig m).getD j 0))),(3,w_ 1),(0,l_ 2 (iW ((dig r).getD (i-j) 0))),(0,w_ 1),(0,w_ 1),(0,w_ 1)] [(0,s_ 0 (.cells (cn .u64 (cvL m r i (j+1))) 293))] 8 [] [] (⟨by omega,rfl,((cn_get _ _ _ (by rw [cvL_len];omega)).trans (by rw [cvL_cur _ _ _ _ hlti])),by omega,rfl,(cn_get _ _ _ (by rw [(dig_len _)];omega)),by omega,by omega,by omega,rfl,(cn_get _ _ _ (by rw [(dig_len _)];omega)),by omega,by omega,by omega,rfl,(by rw [cZ,(cvL_len _ _ _ _)];omega),(.inl rfl),((cn_set _ _ _ _).trans (congrArg _ (cvL_step m r i j hlti (by rw [tm,if_pos hs21])))),fun _ _ FF10 MM10=>?_⟩)
    refine inb_n (tN ?_)
    refine rg_c FF10 MM10 [] 8 [] [] (⟨by omega,fun _ _ FF11 MM11=>?_⟩)
    have hdj:=cnt_of (FF11.get 0 rfl)
    refine tN ⟨⟨j+1,by omega,FF11.pick [0,1,2,3,4,5],MM11⟩,?_⟩
    rw [hcj,hdj];omega
   ·refine wp_cond_false ((FF9.ev 0 rfl).trans (dec_f hs21)) ?_
    have hcv:=cv_le hm hr i hj
    have ha:=py_dig_le hm j
    have hb:=py_dig_le hr (i+17-j)
    have hab:=Nat.mul_le_mul (Nat.mul_le_mul (Nat.le_refl 320) ha) hb
    refine rg_dc 16 FF9 MM9 [(1,w_ 1),(0,l_ 0 (iW (cv m r i j))),(1,w_ 1),(0,l_ 3 (iW ((dig m).getD j 0))),(0,w_ 1),(4,w_ 1),(0,l_ 2 (iW ((dig r).getD ((i+17)-j) 0))),(0,w_ 1),(0,w_ 1),(0,w_ 1)] [(0,s_ 0 (.cells (cn .u64 (cvL m r i (j+1))) 293))] 8 [] [] (⟨by omega,rfl,((cn_get _ _ _ (by rw [cvL_len];omega)).trans (by rw [cvL_cur _ _ _ _ hlti])),by omega,rfl,(cn_get _ _ _ (by rw [(dig_len _)];omega)),by omega,by omega,by omega,by omega,by omega,rfl,(cn_get _ _ _ (by rw [(dig_len _)];omega)),by omega,by omega,by omega,rfl,(by rw [cZ,(cvL_len _ _ _ _)];omega),(.inl rfl),((cn_set _ _ _ _).trans (congrArg _ (cvL_step m r i j hlti (by rw [tm,if_neg hs21])))),fun _ _ FF12 MM12=>?_⟩)
    refine inb_n (tN ?_)
    refine rg_c FF12 MM12 [] 8 [] [] (⟨by omega,fun _ _ FF13 MM13=>?_⟩)
    have hdj:=cnt_of (FF13.get 0 rfl)
    refine tN ⟨⟨j+1,by omega,FF13.pick [0,1,2,3,4,5],MM13⟩,?_⟩
    rw [hcj,hdj];omega
  ·skip
   refine tN (.inr ⟨(FF8.ev 0 rfl).trans (dec_f hltj),?_⟩)
   obtain rfl:j=17:=by omega
   refine inb_n (tN ?_)
   refine rg_c FF8 MM8 [] 8 [] [] (⟨by omega,fun _ _ FF14 MM14=>?_⟩)
   rw [cvL_next]at MM14
   have hdi:=cnt_of (FF14.get 0 rfl)
   refine tN ⟨⟨i+1,by omega,FF14.pick [0,2,3,4,5],MM14⟩,?_⟩
   rw [hci,hdi];omega
 ·skip
  refine tN (.inr ⟨(FF5.ev 0 rfl).trans (dec_f hlti),?_⟩)
  obtain rfl:i=17:=by omega
  rw [cvL_cd]at MM5
  refine tN ?_
  refine wp_seq (rg_c FF5 MM5 [] 9 [] [] (fun _ _ FF15 MM15=>tN ?_))
  refine wp_seq ?_
  refine wp_seq (rg_c FF15 MM15 [] 9 [9] [] (fun _ _ FF16 MM16=>tN ?_))
  refine wp_for2 (fun a' w'=>∃k:Nat,∃c:Nat,k≤17∧(k≤16→c=carC (fun i=>cv m r i 17) k)∧c≤1000000000000∧Fr 75 a' [(9,iN k),(8,iW c),(6,iN 17),(5,pT bx),(4,pT b3),(3,pT b2),(2,pT b1)]∧MemS (fun k=>k<w0.heap.size) w0 w' [(bx,.cells (cn .u64 (cdL (fun i=>cv m r i 17) k)) 293),(b3,.cells (cn .u64 (List.replicate 17 0)) 293),(b2,.cells (cn .u64 (dig r)) 293),(b1,.cells (cn .u64 (dig m)) 293)] []) (fun a' _=>(17-cnt 9 a').toNat) ⟨0,0,by omega,fun _=>rfl,by decide,FF16.pick [0,1,2,3,4,5,6],MM16⟩ ?_
  rintro ac17 wd17 ⟨k,c,hk,hcc,hcl,FF17,MM17⟩
  have hck:=cnt_of (FF17.get 0 rfl)
  refine rg_c FF17 MM17 [] 10 [53] [] (fun _ _ FF18 MM18=>?_)
  by_cases hltk:k<17
  ·skip
   refine tN (.inl ⟨(FF18.ev 0 rfl).trans (dec_t hltk),?_⟩)
   have hcv:=cv_le hm hr k (Nat.le_refl 17)
   have hx:(cdL (fun i=>cv m r i 17) k).getD k 0=cv m r k 17:=by rw [cdL_get _ _ hltk,if_neg (by omega)]
   have hc3:c≤353736000:=by rcases Nat.lt_or_ge 16 k with h | h;exact(by omega);rw [hcc h];exact carC_le (fun i=>cv_le hm hr i (Nat.le_refl 17)) k
   refine wp_seq (rg_c FF18 MM18 [(2,w_ 1),(0,l_ 0 (iW (cv m r k 17))),(0,w_ 1)] 9 [9] [] (⟨by omega,rfl,((cn_get _ _ _ (by rw [cdL_len];omega)).trans (by rw [hx])),by omega,fun _ _ FF19 MM19=>tN ?_⟩))
   refine wp_seq (rg_c FF19 MM19 [] 10 [62] [] (fun _ _ FF20 MM20=>tN ?_))
   by_cases hs62:k<16
   ·refine wp_cond_true ((FF20.ev 0 rfl).trans (dec_t hs62)) ?_
    refine wp_seq (rg_c FF20 MM20 [(2,t_ (iW ((c+(cv m r k 17))%256))),(0,w_ 1),(0,s_ 0 (.cells (cn .u64 (cdL (fun i=>cv m r i 17) (k+1))) 293))] 9 [9] [] (⟨by omega,by decide,(vI (and_low 8 _)),by omega,rfl,(by rw [cZ,(cdL_len _ _)];omega),(.inl rfl),((cn_set _ _ _ _).trans (congrArg _ (cdL_step _ k hltk (by rw [if_pos (by omega),hcc (by omega)])))),fun _ _ FF21 MM21=>tN ?_⟩))
    refine rg_c FF21 MM21 [(1,t_ (iW ((c+(cv m r k 17))/256)))] 9 [9] [] (⟨by decide,rfl,fun _ _ FF22 MM22=>?_⟩)
    refine inb_n (tN ?_)
    refine rg_c FF22 MM22 [] 9 [9] [] (⟨by omega,fun _ _ FF23 MM23=>?_⟩)
    have hdk:=cnt_of (FF23.get 0 rfl)
    refine tN ⟨⟨k+1,(c+(cv m r k 17))/256,by omega,fun _=>(by rw [hcc (by omega)];rfl),by omega,FF23.pick [0,1,2,3,4,5,6],MM23⟩,?_⟩
    rw [hck,hdk];omega
   ·refine wp_cond_false ((FF20.ev 0 rfl).trans (dec_f hs62)) ?_
    obtain rfl:k=16:=by omega
    refine rg_c FF20 MM20 [(2,w_ 1),(0,s_ 0 (.cells (cn .u64 (cdL (fun i=>cv m r i 17) (16+1))) 293))] 9 [9] [] (⟨by decide,rfl,(by rw [cZ,(cdL_len _ _)];decide),(.inl rfl),((cn_set _ _ _ _).trans (congrArg _ (cdL_step _ 16 hltk (by rw [if_neg (by omega),hcc (by omega)])))),fun _ _ FF24 MM24=>?_⟩)
    refine inb_n (tN ?_)
    refine rg_c FF24 MM24 [] 9 [9] [] (⟨by decide,fun _ _ FF25 MM25=>?_⟩)
    have hdk:=cnt_of (FF25.get 0 rfl)
    refine tN ⟨⟨16+1,c+(cv m r 16 17),by omega,fun h=>(by omega),by omega,FF25.pick [0,1,2,3,4,5,6],MM25⟩,?_⟩
    rw [hck,hdk];omega
  ·skip
   refine tN (.inr ⟨(FF18.ev 0 rfl).trans (dec_f hltk),?_⟩)
   obtain rfl:k=17:=by omega
   rw [cdL_all]at MM18
   refine tN ?_
   refine wp_seq (rg_c FF18 MM18 [(0,b_ 0),(0,t_ (.agg (cn .u64 (dig (py_foldN (cvN m r)))))),(0,t_ (.agg (cn .u64 (dig (prodN m r))))),(0,b_ 1)] 9 [9] [] (⟨rfl,((cZ _ _).trans (dig_len _)),(cP ent35 (low_any _ (cvN_lt hm hr)) _),(cP ent35 (low_any _ (Nat.lt_of_lt_of_le (fold1_lt (cvN_lt hm hr)) (by decide))) _),rfl,((cZ _ _).trans (List.length_replicate ..)),((cZ _ _).trans (dig_len _)),(cn_one _ _),rfl,fun _ _ FF26 MM26=>tN ?_⟩))
   refine wp_ret ?_
   repeat first | refine tR ?_ | refine iR ?_
   exact(retc FF26 MM26 (k:=17) (i:=1) (j:=4) Tryz.results183 rfl rfl Tryz.underlying293 rfl (by kernel_rfl) ((cZ _ _).trans (dig_len _)) ⟨rfl,MM26.below⟩)
theorem msk_lt {L:List Nat}{q:Nat→Bool}{c j B:Nat}(h:∀i,L.getD i 0<B)(i:Nat):(mskL L q c j).getD i 0<B:=by
 rcases Nat.lt_or_ge i 17 with hi | hi
 ·rw [mskL_get _ _ _ _ hi];split
  ·exact Nat.lt_of_le_of_lt Nat.and_le_left (h i)
  ·exact h i
 ·rw [List.getD_eq_getElem?_getD,List.getElem?_eq_none (by rw [mskL_len];exact hi)];exact Nat.lt_of_le_of_lt (Nat.zero_le _) (h 0)
theorem sOf_lt {K:List Nat}(hK:Bytes 32 K):sOf K<340282366920938463463374607431768211456:=by
 have h1:=leV_lt (K.drop 16) (fun i=>by have:=hK.lt (16+i);simpa only [List.getD_eq_getElem?_getD,List.getElem?_drop]using this)
 rw [←sOf_eq hK]at h1
 have:(K.drop 16).length=16:=by simp [hK.len]
 rw [this]at h1
 exact Nat.lt_of_lt_of_le h1 (by decide)
set_option maxHeartbeats 2000000 in
theorem rPoly_any (K T:List Nat)(hK:Bytes 32 K)(hT:∀i,T.getD i 0<256)(hl:T.length<4611686018427387904)(w0:World) :
  Calls Tryz.prog 153 #[.agg (cn .u8 K),sB T] w0 fun e w'=>e=.returned (.agg (cn .u8 (polyN K T)))∧Below w0.heap.size w0 w':=by
 refine eF Tryz.func153 rfl Tryz.ntmps153 (by simp) fun ac (FF:Fr 115 ac [(0,.agg (cn .u8 K)),(1,sB T)])=>?_
 have MM:=MemS.start w0
 refine wp_seq (rg_c FF MM [(0,s_ 0 (.cells (cn .u8 K) 51)),(0,s_ 0 (.cells (cn .u8 (List.replicate 16 0)) 94))] 5 [] [0] (⟨(by kernel_rfl),fun b1=>⟨(by kernel_rfl),fun b2=>fun _ _ FF1 MM1=>tN ?_⟩⟩))
 refine wp_seq (rg_c FF1 MM1 [(0,t_ (.agg (cn .u64 (List.replicate 17 0)))),(0,s_ 0 (.cells (cn .u64 (List.replicate 17 0)) 293)),(0,b_ 0)] 6 [] [] (⟨(by kernel_rfl),(by kernel_rfl),fun br=>⟨rfl,((cZ _ _).trans (List.length_replicate ..)),((cZ _ _).trans (List.length_replicate ..)),(cn_one _ _),rfl,fun _ wd2 FF2 MM2=>tN ?_⟩⟩))
 have MMr4:MemS (fun k=>k<w0.heap.size) w0 wd2 [(br,.cells (cn .u64 (genL 17 (fun i=>K.getD i 0) 0)) 293),(b2,.cells (cn .u8 (List.replicate 16 0)) 94),(b1,.cells (cn .u8 K) 51)] []:=by rw [←genL_zero 17 (fun i=>K.getD i 0)];exact MM2
 refine wp_seq (rg_c FF2 MMr4 [(0,t_ (.agg (cn .u64 (List.replicate 17 0)))),(0,s_ 0 (.cells (cn .u64 (List.replicate 17 0)) 293)),(0,b_ 0)] 7 [] [] (⟨(by kernel_rfl),(by kernel_rfl),fun be=>⟨rfl,((cZ _ _).trans (List.length_replicate ..)),((cZ _ _).trans (List.length_replicate ..)),(cn_one _ _),rfl,fun _ wd3 FF3 MM3=>tN ?_⟩⟩))
 have MMr6:MemS (fun k=>k<w0.heap.size) w0 wd3 [(be,.cells (cn .u64 (genL 17 (fun i=>K.getD (16+i) 0) 0)) 293),(br,.cells (cn .u64 (genL 17 (fun i=>K.getD i 0) 0)) 293),(b2,.cells (cn .u8 (List.replicate 16 0)) 94),(b1,.cells (cn .u8 K) 51)] []:=by rw [←genL_zero 17 (fun i=>K.getD (16+i) 0)];exact MM3
 refine wp_seq ?_
 refine wp_seq (rg_c FF3 MMr6 [] 8 [] [] (fun _ _ FF4 MM4=>tN ?_))
 refine wp_for2 (fun a' w'=>∃j:Nat,j≤16∧Fr 115 a' [(7,iN j),(6,pT be),(5,pT br),(4,pT b2),(2,pT b1),(1,sB T)]∧MemS (fun k=>k<w0.heap.size) w0 w' [(be,.cells (cn .u64 (genL 17 (fun i=>K.getD (16+i) 0) j)) 293),(br,.cells (cn .u64 (genL 17 (fun i=>K.getD i 0) j)) 293),(b2,.cells (cn .u8 (List.replicate 16 0)) 94),(b1,.cells (cn .u8 K) 51)] []) (fun a' _=>(16-cnt 7 a').toNat) ⟨0,by omega,FF4.pick [0,1,2,3,4,5],MM4⟩ ?_
 rintro ac5 wd5 ⟨j,hj,FF5,MM5⟩
 have hcj:=cnt_of (FF5.get 0 rfl)
 refine rg_c FF5 MM5 [] 8 [20] [] (fun _ _ FF6 MM6=>?_)
 by_cases hltj:j<16
 ·skip
  refine tN (.inl ⟨(FF6.ev 0 rfl).trans (dec_t hltj),?_⟩)
  refine wp_seq (rg_c FF6 MM6 [(2,w_ 1),(0,l_ 3 (iB (K.getD j 0))),(0,w_ 1),(0,w_ 1),(0,s_ 1 (.cells (cn .u64 (genL 17 (fun i=>K.getD i 0) (j+1))) 293))] 8 [] [] (⟨by omega,rfl,(cn_get _ _ _ (by rw [hK.len];omega)),(by have:=hK.lt j;omega),by omega,rfl,(by rw [cZ,(genL_len _ _ _)];omega),(.inl rfl),((cn_set _ _ _ _).trans (congrArg _ (genL_step _ _ j (by omega) rfl))),fun _ _ FF7 MM7=>tN ?_⟩))
  refine rg_c FF7 MM7 [(3,w_ 1),(0,l_ 3 (iB (K.getD (16+j) 0))),(0,w_ 1),(0,w_ 1),(0,s_ 0 (.cells (cn .u64 (genL 17 (fun i=>K.getD (16+i) 0) (j+1))) 293))] 8 [] [] (⟨by omega,by omega,rfl,(cn_get _ _ _ (by rw [hK.len];omega)),(by have:=hK.lt (16+j);omega),by omega,rfl,(by rw [cZ,(genL_len _ _ _)];omega),(.inl rfl),((cn_set _ _ _ _).trans (congrArg _ (genL_step _ _ j (by omega) rfl))),fun _ _ FF8 MM8=>?_⟩)
  refine inb_n (tN ?_)
  refine rg_c FF8 MM8 [] 8 [] [] (⟨by omega,fun _ _ FF9 MM9=>?_⟩)
  have hdj:=cnt_of (FF9.get 0 rfl)
  refine tN ⟨⟨j+1,by omega,FF9.pick [0,1,2,3,4,5],MM9⟩,?_⟩
  rw [hcj,hdj];omega
 ·skip
  refine tN (.inr ⟨(FF6.ev 0 rfl).trans (dec_f hltj),?_⟩)
  obtain rfl:j=16:=by omega
  refine tN ?_
  refine wp_seq ?_
  refine wp_seq (rg_c FF6 MM6 [] 9 [] [] (fun _ wd10 FF10 MM10=>tN ?_))
  have MMr:MemS (fun k=>k<w0.heap.size) w0 wd10 [(be,.cells (cn .u64 (genL 17 (fun i=>K.getD (16+i) 0) 16)) 293),(br,.cells (cn .u64 (mskL (py_keyL K) q3 15 3)) 293),(b2,.cells (cn .u8 (List.replicate 16 0)) 94),(b1,.cells (cn .u8 K) 51)] []:=by rw [mskL_start (L:=py_keyL K) (genL_len _ _ _) q3 15 3 (fun i hi=>by simp [q3] <;> omega)];exact MM10
  refine wp_for2 (fun a' w'=>∃j:Nat,j≤4∧Fr 115 a' [(8,iN (4*j+3)),(7,iN 16),(6,pT be),(5,pT br),(4,pT b2),(2,pT b1),(1,sB T)]∧MemS (fun k=>k<w0.heap.size) w0 w' [(be,.cells (cn .u64 (genL 17 (fun i=>K.getD (16+i) 0) 16)) 293),(br,.cells (cn .u64 (mskL (py_keyL K) q3 15 (4*j+3))) 293),(b2,.cells (cn .u8 (List.replicate 16 0)) 94),(b1,.cells (cn .u8 K) 51)] []) (fun a' _=>(20-cnt 8 a').toNat) ⟨0,by omega,FF10.pick [0,1,2,3,4,5,6],MMr⟩ ?_
  rintro ac11 wd11 ⟨j,hj,FF11,MM11⟩
  have hcj:=cnt_of (FF11.get 0 rfl)
  refine rg_c FF11 MM11 [] 9 [37] [] (fun _ _ FF12 MM12=>?_)
  by_cases hltj:(4*j+3)<16
  ·skip
   refine tN (.inl ⟨(FF12.ev 0 rfl).trans (dec_t hltj),?_⟩)
   have hb:(mskL (py_keyL K) q3 15 (4*j+3)).getD (4*j+3) 0<256:=msk_lt (genL_lt (by decide) hK.lt 16) _
   refine rg_c FF12 MM12 [(1,w_ 1),(0,l_ 1 (iW ((mskL (py_keyL K) q3 15 (4*j+3)).getD (4*j+3) 0))),(1,w_ 1),(0,s_ 1 (.cells (cn .u64 (mskL (py_keyL K) q3 15 (4*(j+1)+3))) 293))] 9 [] [] (⟨by omega,rfl,(cn_get _ _ _ (by rw [(mskL_len _ _ _ _)];omega)),by omega,by decide,by omega,rfl,(by rw [cZ,(mskL_len _ _ _ _)];omega),(.inl rfl),((cn_set _ _ _ _).trans (congrArg _ (mskL_step _ _ _ _ _ (by omega) (by simp [q3] <;> omega) (by omega) (fun i h1 h2=>by simp [q3] <;> omega)))),fun _ _ FF13 MM13=>?_⟩)
   refine inb_n (tN ?_)
   refine rg_c FF13 MM13 [(1,t_ (iN (4*(j+1)+3)))] 9 [] [] (⟨by omega,(vI (by omega)),fun _ _ FF14 MM14=>?_⟩)
   have hdj:=cnt_of (FF14.get 0 rfl)
   refine tN ⟨⟨j+1,by omega,FF14.pick [0,1,2,3,4,5,6],MM14⟩,?_⟩
   rw [hcj,hdj];omega
  ·skip
   refine tN (.inr ⟨(FF12.ev 0 rfl).trans (dec_f hltj),?_⟩)
   obtain rfl:j=4:=by omega
   refine tN ?_
   refine wp_seq ?_
   refine wp_seq (rg_c FF12 MM12 [] 9 [9] [] (fun _ wd15 FF15 MM15=>tN ?_))
   have MMr2:MemS (fun k=>k<w0.heap.size) w0 wd15 [(be,.cells (cn .u64 (genL 17 (fun i=>K.getD (16+i) 0) 16)) 293),(br,.cells (cn .u64 (mskL (mskL (py_keyL K) q3 15 19) q0 252 (4*1))) 293),(b2,.cells (cn .u8 (List.replicate 16 0)) 94),(b1,.cells (cn .u8 K) 51)] []:=by rw [mskL_start (L:=mskL (py_keyL K) q3 15 19) (mskL_len _ _ _ _) q0 252 (4*1) (fun i hi=>by simp [q0] <;> omega)];exact MM15
   refine wp_for2 (fun a' w'=>∃i:Nat,(0<i∧i≤4)∧Fr 115 a' [(9,iN (4*i)),(8,iN (4*4+3)),(7,iN 16),(6,pT be),(5,pT br),(4,pT b2),(2,pT b1),(1,sB T)]∧MemS (fun k=>k<w0.heap.size) w0 w' [(be,.cells (cn .u64 (genL 17 (fun i=>K.getD (16+i) 0) 16)) 293),(br,.cells (cn .u64 (mskL (mskL (py_keyL K) q3 15 19) q0 252 (4*i))) 293),(b2,.cells (cn .u8 (List.replicate 16 0)) 94),(b1,.cells (cn .u8 K) 51)] []) (fun a' _=>(20-cnt 9 a').toNat) ⟨1,by omega,FF15.pick [0,1,2,3,4,5,6,7],MMr2⟩ ?_
   rintro ac16 wd16 ⟨i,hi,FF16,MM16⟩
   have hci:=cnt_of (FF16.get 0 rfl)
   refine rg_c FF16 MM16 [] 10 [46] [] (fun _ wd17 FF17 MM17=>?_)
   by_cases hlti:(4*i)<16
   ·skip
    refine tN (.inl ⟨(FF17.ev 0 rfl).trans (dec_t hlti),?_⟩)
    have hb:(mskL (mskL (py_keyL K) q3 15 19) q0 252 (4*i)).getD (4*i) 0<256:=msk_lt (msk_lt (genL_lt (by decide) hK.lt 16)) _
    refine rg_c FF17 MM17 [(1,w_ 1),(0,l_ 1 (iW ((mskL (mskL (py_keyL K) q3 15 19) q0 252 (4*i)).getD (4*i) 0))),(1,w_ 1),(0,s_ 1 (.cells (cn .u64 (mskL (mskL (py_keyL K) q3 15 19) q0 252 (4*(i+1)))) 293))] 9 [9] [] (⟨by omega,rfl,(cn_get _ _ _ (by rw [(mskL_len _ _ _ _)];omega)),by omega,by decide,by omega,rfl,(by rw [cZ,(mskL_len _ _ _ _)];omega),(.inl rfl),((cn_set _ _ _ _).trans (congrArg _ (mskL_step _ _ _ _ _ (by omega) (by simp [q0] <;> omega) (by omega) (fun z h1 h2=>by simp [q0] <;> omega)))),fun _ _ FF18 MM18=>?_⟩)
    refine inb_n (tN ?_)
    refine rg_c FF18 MM18 [(1,t_ (iN (4*(i+1))))] 9 [9] [] (⟨by omega,(vI (by omega)),fun _ _ FF19 MM19=>?_⟩)
    have hdi:=cnt_of (FF19.get 0 rfl)
    refine tN ⟨⟨i+1,by omega,FF19.pick [0,1,2,3,4,5,6,7],MM19⟩,?_⟩
    rw [hci,hdi];omega
   ·skip
    refine tN (.inr ⟨(FF17.ev 0 rfl).trans (dec_f hlti),?_⟩)
    obtain rfl:i=4:=by omega
    have eR:=rL_dig hK
    have eE:=endL_dig hK
    have MMk:MemS (fun k=>k<w0.heap.size) w0 wd17 [(be,.cells (cn .u64 (dig (sOf K))) 293),(br,.cells (cn .u64 (dig (rOf K))) 293),(b2,.cells (cn .u8 (List.replicate 16 0)) 94),(b1,.cells (cn .u8 K) 51)] []:=by rw [←eR,←eE];exact MM17
    refine tN ?_
    refine wp_seq (rg_c FF17 MMk [(0,t_ (.agg (cn .u64 (List.replicate 17 0)))),(0,s_ 0 (.cells (cn .u64 (List.replicate 17 0)) 293)),(0,b_ 0)] 11 [] [] (⟨(by kernel_rfl),(by kernel_rfl),fun bh=>⟨rfl,((cZ _ _).trans (List.length_replicate ..)),((cZ _ _).trans (List.length_replicate ..)),(cn_one _ _),rfl,fun _ wd20 FF20 MM20=>tN ?_⟩⟩))
    have MMh:MemS (fun k=>k<w0.heap.size) w0 wd20 [(bh,.cells (cn .u64 (dig (mK (rOf K) T 0))) 293),(be,.cells (cn .u64 (dig (sOf K))) 293),(br,.cells (cn .u64 (dig (rOf K))) 293),(b2,.cells (cn .u8 (List.replicate 16 0)) 94),(b1,.cells (cn .u8 K) 51)] []:=by rw [show dig (mK (rOf K) T 0)=List.replicate 17 0 from(by kernel_rfl)];exact MM20
    refine wp_seq ?_
    refine wp_seq (rg_c FF20 MMh [] 12 [] [] (fun _ _ FF21 MM21=>tN ?_))
    refine wp_for2 (fun a' w'=>∃k:Nat,(k=0∨16*(k-1)<T.length)∧Fr 115 a' [(11,iN (16*k)),(10,pT bh),(9,iN (4*4)),(8,iN (4*4+3)),(7,iN 16),(6,pT be),(5,pT br),(4,pT b2),(2,pT b1),(1,sB T)]∧MemS (fun k=>k<w0.heap.size) w0 w' [(bh,.cells (cn .u64 (dig (mK (rOf K) T k))) 293),(be,.cells (cn .u64 (dig (sOf K))) 293),(br,.cells (cn .u64 (dig (rOf K))) 293),(b2,.cells (cn .u8 (List.replicate 16 0)) 94),(b1,.cells (cn .u8 K) 51)] []) (fun a' _=>(T.length+16-cnt 11 a').toNat) ⟨0,.inl rfl,FF21.pick [0,1,2,3,4,5,6,7,8,9],MM21⟩ ?_
    rintro ac22 wd22 ⟨k,hk,FF22,MM22⟩
    have hck:=cnt_of (FF22.get 0 rfl)
    have hmk:=mK_lt (rOf_lt K) hT k
    refine rg_c FF22 MM22 [(2,t_ (iN T.length))] 12 [58] [] (⟨(vI (bs_size _)),fun _ _ FF23 MM23=>?_⟩)
    by_cases hltk:(16*k)<T.length
    ·skip
     refine tN (.inl ⟨(FF23.ev 0 rfl).trans (dec_t hltk),?_⟩)
     refine wp_seq (rg_c FF23 MM23 [(0,t_ (.agg (cn .u64 (List.replicate 17 0)))),(0,s_ 0 (.cells (cn .u64 (List.replicate 17 0)) 293)),(0,b_ 0)] 13 [] [] (⟨(by kernel_rfl),(by kernel_rfl),fun bc=>⟨rfl,((cZ _ _).trans (List.length_replicate ..)),((cZ _ _).trans (List.length_replicate ..)),(cn_one _ _),rfl,fun _ wd24 FF24 MM24=>tN ?_⟩⟩))
     have MMr85:MemS (fun k=>k<w0.heap.size) w0 wd24 [(bc,.cells (cn .u64 (genL 17 (fun i=>((T.drop (16*k)).take 16).getD i 0) 0)) 293),(bh,.cells (cn .u64 (dig (mK (rOf K) T k))) 293),(be,.cells (cn .u64 (dig (sOf K))) 293),(br,.cells (cn .u64 (dig (rOf K))) 293),(b2,.cells (cn .u8 (List.replicate 16 0)) 94),(b1,.cells (cn .u8 K) 51)] []:=by rw [←genL_zero 17 (fun i=>((T.drop (16*k)).take 16).getD i 0)];exact MM24
     refine wp_seq (rg_c FF24 MMr85 [] 14 [] [] (fun _ _ FF25 MM25=>tN ?_))
     refine wp_seq ?_
     refine wp_for2w (fun a' w'=>∃n:Nat,(n≤16∧16*k+n≤T.length)∧Fr 115 a' [(13,iN n),(12,pT bc),(11,iN (16*k)),(10,pT bh),(9,iN (4*4)),(8,iN (4*4+3)),(7,iN 16),(6,pT be),(5,pT br),(4,pT b2),(2,pT b1),(1,sB T)]∧MemS (fun k=>k<w0.heap.size) w0 w' [(bc,.cells (cn .u64 (genL 17 (fun i=>((T.drop (16*k)).take 16).getD i 0) n)) 293),(bh,.cells (cn .u64 (dig (mK (rOf K) T k))) 293),(be,.cells (cn .u64 (dig (sOf K))) 293),(br,.cells (cn .u64 (dig (rOf K))) 293),(b2,.cells (cn .u8 (List.replicate 16 0)) 94),(b1,.cells (cn .u8 K) 51)] []) (fun a' _=>(16-cnt 13 a').toNat) ⟨0,by omega,FF25.pick [0,1,2,3,4,5,6,7,8,9,10,11],MM25⟩ ?_
     rintro ac26 wd26 ⟨n,hn,FF26,MM26⟩
     have hcn:=cnt_of (FF26.get 0 rfl)
     by_cases h1:n<16
     ·by_cases h2:16*k+n<T.length
      ·skip
       refine rg_c FF26 MM26 [(1,w_ 2),(5,t_ (iN T.length)),(0,w_ 2)] 14 [71] [] (⟨by omega,by omega,(vI (bs_size _)),by omega,fun _ _ FF27 MM27=>?_⟩)
       refine tN (.inl ⟨FF27.ev 0 rfl,?_⟩)
       have hb:T.getD (16*k+n) 0=((T.drop (16*k)).take 16).getD n 0:=by simp [h1]
       refine wp_seq (rg_c FF27 MM27 [(5,t_ (iB (T.getD ((16*k)+n) 0))),(0,w_ 1),(0,w_ 1),(0,s_ 0 (.cells (cn .u64 (genL 17 (fun i=>((T.drop (16*k)).take 16).getD i 0) (n+1))) 293))] 14 [] [] (⟨by omega,(by simp only [bs_size];omega),(byte_bs hT _),(by have:=hT ((16*k)+n);omega),by omega,rfl,(by rw [cZ,(genL_len _ _ _)];omega),(.inl rfl),((cn_set _ _ _ _).trans (congrArg _ (genL_step _ _ n (by omega) hb))),fun _ _ FF28 MM28=>tN ?_⟩))
       refine rg_c FF28 MM28 [] 14 [] [] (⟨by omega,fun _ _ FF29 MM29=>?_⟩)
       refine inb_n ?_
       have hdn:=cnt_of (FF29.get 0 rfl)
       refine tN ⟨⟨n+1,by omega,FF29.pick [0,1,2,3,4,5,6,7,8,9,10,11],MM29⟩,?_⟩
       rw [hcn,hdn];omega
      ·skip
       refine rg_c FF26 MM26 [(1,w_ 2),(5,t_ (iN T.length)),(0,w_ 3)] 14 [71] [] (⟨by omega,by omega,(vI (bs_size _)),by omega,fun _ _ FF30 MM30=>?_⟩)
       refine tN (.inr ⟨FF30.ev 0 rfl,?_⟩)
       have hn2:n=((T.drop (16*k)).take 16).length:=by simp;omega
       refine tN ?_
       refine wp_seq (rg_c FF30 MM30 [(1,w_ 1),(0,s_ 0 (.cells (cn .u64 (dig (numR ((T.drop (16*k)).take 16)))) 293))] 14 [] [] (⟨by omega,rfl,(by rw [cZ,(genL_len _ _ _)];omega),(.inl rfl),((cn_set _ _ _ _).trans (congrArg _ (by rw [hn2];exact blk_dig (by simp;omega) (blkT_lt hT k)))),fun _ _ FF31 MM31=>tN ?_⟩))
       have hnb:=numR_lt (R:=((T.drop (16*k)).take 16)) (by simp;omega) (blkT_lt hT k)
       have hrl:=rOf_lt K
       refine rg_dc 5 FF31 MM31 [(0,b_ 1),(0,b_ 0),(0,t_ (.agg (cn .u64 (dig ((mK (rOf K) T k)+(numR ((T.drop (16*k)).take 16))))))),(0,b_ 3),(0,t_ (.agg (cn .u64 (dig (mK (rOf K) T (k+1))))))] [(0,b_ 1)] 14 [] [] (⟨rfl,((cZ _ _).trans (dig_len _)),rfl,((cZ _ _).trans (dig_len _)),(radd_ok (by omega) (by omega) _),rfl,((cZ _ _).trans (dig_len _)),(cP ent25 (rtimes_any _ _ (by omega) (by omega)) _),rfl,((cZ _ _).trans (dig_len _)),((cZ _ _).trans (dig_len _)),(cn_one _ _),rfl,fun _ _ FF32 MM32=>?_⟩)
       refine inb_n (tN ?_)
       refine rg_c FF32 MM32 [(1,t_ (iN (16*(k+1))))] 14 [] [] (⟨by omega,(vI (by omega)),fun _ _ FF33 MM33=>?_⟩)
       have hdk:=cnt_of (FF33.get 0 rfl)
       refine tN ⟨⟨k+1,.inr (by omega),FF33.pick [0,3,4,5,6,7,8,9,10,11],MM33.sub [1,2,3,4,5] rfl⟩,?_⟩
       rw [hck,hdk];omega
     ·skip
      refine rg_c FF26 MM26 [(1,w_ 3)] 14 [71] [] (⟨by omega,fun _ _ FF34 MM34=>?_⟩)
      refine tN (.inr ⟨FF34.ev 0 rfl,?_⟩)
      have hn2:n=((T.drop (16*k)).take 16).length:=by simp;omega
      refine tN ?_
      refine wp_seq (rg_c FF34 MM34 [(1,w_ 1),(0,s_ 0 (.cells (cn .u64 (dig (numR ((T.drop (16*k)).take 16)))) 293))] 14 [] [] (⟨by omega,rfl,(by rw [cZ,(genL_len _ _ _)];omega),(.inl rfl),((cn_set _ _ _ _).trans (congrArg _ (by rw [hn2];exact blk_dig (by simp;omega) (blkT_lt hT k)))),fun _ _ FF35 MM35=>tN ?_⟩))
      have hnb:=numR_lt (R:=((T.drop (16*k)).take 16)) (by simp;omega) (blkT_lt hT k)
      have hrl:=rOf_lt K
      refine rg_dc 5 FF35 MM35 [(0,b_ 1),(0,b_ 0),(0,t_ (.agg (cn .u64 (dig ((mK (rOf K) T k)+(numR ((T.drop (16*k)).take 16))))))),(0,b_ 3),(0,t_ (.agg (cn .u64 (dig (mK (rOf K) T (k+1))))))] [(0,b_ 1)] 14 [] [] (⟨rfl,((cZ _ _).trans (dig_len _)),rfl,((cZ _ _).trans (dig_len _)),(radd_ok (by omega) (by omega) _),rfl,((cZ _ _).trans (dig_len _)),(cP ent25 (rtimes_any _ _ (by omega) (by omega)) _),rfl,((cZ _ _).trans (dig_len _)),((cZ _ _).trans (dig_len _)),(cn_one _ _),rfl,fun _ _ FF36 MM36=>?_⟩)
      refine inb_n (tN ?_)
      refine rg_c FF36 MM36 [(1,t_ (iN (16*(k+1))))] 14 [] [] (⟨by omega,(vI (by omega)),fun _ _ FF37 MM37=>?_⟩)
      have hdk:=cnt_of (FF37.get 0 rfl)
      refine tN ⟨⟨k+1,.inr (by omega),FF37.pick [0,3,4,5,6,7,8,9,10,11],MM37.sub [1,2,3,4,5] rfl⟩,?_⟩
      rw [hck,hdk];omega
    ·skip
     refine tN (.inr ⟨(FF23.ev 0 rfl).trans (dec_f hltk),?_⟩)
     refine tN ?_
     refine wp_seq (rg_c FF23 MM23 [(0,b_ 0),(0,t_ (.agg (cn .u64 (dig 5)))),(0,t_ (.agg (cn .u64 (dig ((mK (rOf K) T k)+5))))),(0,s_ 0 (.cells (cn .u64 (List.replicate 17 0)) 293)),(0,b_ 0)] 15 [] [] (⟨rfl,((cZ _ _).trans (dig_len _)),(Eq.trans (show _=some (cn .u64 ([5,0,0,0,0,0,0,0,0,0,0,0,0,0,0,0,0]))by kernel_rfl) (congrArg some (Value.agg.inj rfl))),(radd_ok (by omega) (by decide) _),(by kernel_rfl),fun bg=>⟨rfl,((cZ _ _).trans (List.length_replicate ..)),((cZ _ _).trans (dig_len _)),(cn_one _ _),rfl,fun _ _ FF38 MM38=>tN ?_⟩⟩))
     refine wp_seq ?_
     refine wp_seq (rg_c FF38 MM38 [(0,w_ 1),(0,l_ 0 (iW ((mK (rOf K) T k+5)/340282366920938463463374607431768211456)))] 15 [94] [] (⟨by decide,rfl,((cn_get _ _ _ (by rw [dig_len];decide)).trans (by rw [dig_hi])),fun _ wd39 FF39 MM39=>tN ?_⟩))
     by_cases hs94:((mK (rOf K) T k+5)/340282366920938463463374607431768211456)>3
     ·refine wp_cond_true ((FF39.ev 0 rfl).trans (dec_t hs94)) ?_
      refine wp_seq (rg_c FF39 MM39 [(0,w_ 1),(0,l_ 0 (iW ((mK (rOf K) T k+5)/340282366920938463463374607431768211456))),(0,t_ (iW (((mK (rOf K) T k+5)/340282366920938463463374607431768211456)%4))),(0,w_ 1),(0,s_ 0 (.cells (cn .u64 (dig (mK (rOf K) T k%1361129467683753853853498429727072845819))) 293))] 15 [] [] (⟨by decide,rfl,((cn_get _ _ _ (by rw [dig_len];decide)).trans (by rw [dig_hi])),by omega,by decide,(vI (and_low 2 _)),by decide,rfl,(by rw [cZ,(dig_len _)];decide),(.inl rfl),((cn_set _ _ _ _).trans (congrArg _ ((low_cut _).trans (by rw [py_settle_hi hmk hs94])))),fun _ _ FF40 MM40=>tN ?_⟩))
      refine rg_c FF40 MM40 [(0,b_ 0),(0,b_ 1)] 15 [] [] (⟨rfl,((cZ _ _).trans (dig_len _)),rfl,((cZ _ _).trans (dig_len _)),((cZ _ _).trans (dig_len _)),(cn_one _ _),rfl,fun _ _ FF41 MM41=>?_⟩)
      refine tN ?_
      have hsl:sOf K<340282366920938463463374607431768211456:=sOf_lt hK
      have hml:=Nat.mod_lt (mK (rOf K) T k) (show 1361129467683753853853498429727072845819>0 by decide)
      refine wp_seq (rg_c FF41 MM41 [(0,b_ 1),(0,b_ 2),(0,t_ (.agg (cn .u64 (dig ((mK (rOf K) T k%1361129467683753853853498429727072845819)+(sOf K)))))),(0,b_ 1)] 15 [] [] (⟨rfl,((cZ _ _).trans (dig_len _)),rfl,((cZ _ _).trans (dig_len _)),(radd_ok (by omega) (by omega) _),rfl,((cZ _ _).trans (dig_len _)),((cZ _ _).trans (dig_len _)),(cn_one _ _),rfl,fun _ _ FF42 MM42=>tN ?_⟩))
      refine wp_seq (rg_c FF42 MM42 [(0,t_ (.agg (cn .u8 (List.replicate 16 0)))),(0,s_ 0 (.cells (cn .u8 (List.replicate 16 0)) 94)),(0,b_ 0)] 16 [] [] (⟨(by kernel_rfl),(by kernel_rfl),fun bo=>⟨rfl,((cZ _ _).trans (List.length_replicate ..)),((cZ _ _).trans (List.length_replicate ..)),(cn_one _ _),rfl,fun _ wd43 FF43 MM43=>tN ?_⟩⟩))
      have MMr146:MemS (fun k=>k<w0.heap.size) w0 wd43 [(bo,.cells (cn .u8 (genL 16 (fun i=>(dig (mK (rOf K) T k%1361129467683753853853498429727072845819+sOf K)).getD i 0%256) 0)) 94),(bg,.cells (cn .u64 (dig (mK (rOf K) T k%1361129467683753853853498429727072845819))) 293),(bh,.cells (cn .u64 (dig ((mK (rOf K) T k%1361129467683753853853498429727072845819)+(sOf K)))) 293),(be,.cells (cn .u64 (dig (sOf K))) 293),(br,.cells (cn .u64 (dig (rOf K))) 293),(b2,.cells (cn .u8 (List.replicate 16 0)) 94),(b1,.cells (cn .u8 K) 51)] []:=by rw [←genL_zero 16 (fun i=>(dig (mK (rOf K) T k%1361129467683753853853498429727072845819+sOf K)).getD i 0%256)];exact MM43
      refine wp_seq ?_
      refine wp_seq (rg_c FF43 MMr146 [] 17 [] [] (fun _ _ FF44 MM44=>tN ?_))
      refine wp_for2 (fun a' w'=>∃j:Nat,j≤16∧Fr 115 a' [(16,iN j),(15,pT bo),(14,pT bg),(11,iN (16*k)),(10,pT bh),(9,iN (4*4)),(8,iN (4*4+3)),(7,iN 16),(6,pT be),(5,pT br),(4,pT b2),(2,pT b1),(1,sB T)]∧MemS (fun k=>k<w0.heap.size) w0 w' [(bo,.cells (cn .u8 (genL 16 (fun i=>(dig (mK (rOf K) T k%1361129467683753853853498429727072845819+sOf K)).getD i 0%256) j)) 94),(bg,.cells (cn .u64 (dig (mK (rOf K) T k%1361129467683753853853498429727072845819))) 293),(bh,.cells (cn .u64 (dig ((mK (rOf K) T k%1361129467683753853853498429727072845819)+(sOf K)))) 293),(be,.cells (cn .u64 (dig (sOf K))) 293),(br,.cells (cn .u64 (dig (rOf K))) 293),(b2,.cells (cn .u8 (List.replicate 16 0)) 94),(b1,.cells (cn .u8 K) 51)] []) (fun a' _=>(16-cnt 16 a').toNat) ⟨0,by omega,FF44.pick [0,1,2,3,4,5,6,7,8,9,10,11,12],MM44⟩ ?_
      rintro ac45 wd45 ⟨j,hj,FF45,MM45⟩
      have hcj:=cnt_of (FF45.get 0 rfl)
      refine rg_c FF45 MM45 [] 17 [105] [] (fun _ _ FF46 MM46=>?_)
      by_cases hltj:j<16
      ·skip
       refine tN (.inl ⟨(FF46.ev 0 rfl).trans (dec_t hltj),?_⟩)
       refine rg_c FF46 MM46 [(2,w_ 1),(0,l_ 2 (iW ((dig ((mK (rOf K) T k%1361129467683753853853498429727072845819)+(sOf K))).getD j 0))),(1,w_ 1),(0,s_ 0 (.cells (cn .u8 (genL 16 (fun i=>(dig (mK (rOf K) T k%1361129467683753853853498429727072845819+sOf K)).getD i 0%256) (j+1))) 94))] 17 [] [] (⟨by omega,rfl,(cn_get _ _ _ (by rw [(dig_len _)];omega)),by omega,rfl,(by rw [cZ,(genL_len _ _ _)];omega),(.inl rfl),((cn_set _ _ _ _).trans (congrArg _ (genL_step _ _ j (by omega) rfl))),fun _ _ FF47 MM47=>?_⟩)
       refine inb_n (tN ?_)
       refine rg_c FF47 MM47 [] 17 [] [] (⟨by omega,fun _ _ FF48 MM48=>?_⟩)
       have hdj:=cnt_of (FF48.get 0 rfl)
       refine tN ⟨⟨j+1,by omega,FF48.pick [0,1,2,3,4,5,6,7,8,9,10,11,12],MM48⟩,?_⟩
       rw [hcj,hdj];omega
      ·skip
       refine tN (.inr ⟨(FF46.ev 0 rfl).trans (dec_f hltj),?_⟩)
       obtain rfl:j=16:=by omega
       refine tN ?_
       refine wp_seq (rg_c FF46 MM46 [(0,b_ 0),(0,b_ 5)] 17 [] [] (⟨rfl,((cZ _ _).trans (genL_len _ _ _)),rfl,((cZ _ _).trans (List.length_replicate ..)),((cZ _ _).trans (genL_len _ _ _)),(cn_one _ _),rfl,fun _ _ FF49 MM49=>tN ?_⟩))
       refine wp_ret ?_
       repeat first | refine tR ?_ | refine iR ?_
       exact(retc FF49 MM49 (k:=16) (i:=5) (j:=10) Tryz.results153 rfl rfl Tryz.underlying94 rfl (by kernel_rfl) ((cZ _ _).trans (genL_len _ _ _)) ⟨by rw [out_leB,mAll_mod _ T k (by omega) hk,←poly_leB],MM49.below⟩)
     ·refine wp_cond_false ((FF39.ev 0 rfl).trans (dec_f hs94)) ?_
      refine wp_skip ?_
      refine tN ?_
      have MMz:MemS (fun k=>k<w0.heap.size) w0 wd39 [(bg,.cells (cn .u64 (dig ((mK (rOf K) T k)+5))) 293),(bh,.cells (cn .u64 (dig (mK (rOf K) T k%1361129467683753853853498429727072845819))) 293),(be,.cells (cn .u64 (dig (sOf K))) 293),(br,.cells (cn .u64 (dig (rOf K))) 293),(b2,.cells (cn .u8 (List.replicate 16 0)) 94),(b1,.cells (cn .u8 K) 51)] []:=by rw [py_settle_lo hs94];exact MM39
      have hsl:sOf K<340282366920938463463374607431768211456:=sOf_lt hK
      have hml:=Nat.mod_lt (mK (rOf K) T k) (show 1361129467683753853853498429727072845819>0 by decide)
      refine wp_seq (rg_c FF39 MMz [(0,b_ 1),(0,b_ 2),(0,t_ (.agg (cn .u64 (dig ((mK (rOf K) T k%1361129467683753853853498429727072845819)+(sOf K)))))),(0,b_ 1)] 15 [] [] (⟨rfl,((cZ _ _).trans (dig_len _)),rfl,((cZ _ _).trans (dig_len _)),(radd_ok (by omega) (by omega) _),rfl,((cZ _ _).trans (dig_len _)),((cZ _ _).trans (dig_len _)),(cn_one _ _),rfl,fun _ _ FF50 MM50=>tN ?_⟩))
      refine wp_seq (rg_c FF50 MM50 [(0,t_ (.agg (cn .u8 (List.replicate 16 0)))),(0,s_ 0 (.cells (cn .u8 (List.replicate 16 0)) 94)),(0,b_ 0)] 16 [] [] (⟨(by kernel_rfl),(by kernel_rfl),fun bo=>⟨rfl,((cZ _ _).trans (List.length_replicate ..)),((cZ _ _).trans (List.length_replicate ..)),(cn_one _ _),rfl,fun _ wd51 FF51 MM51=>tN ?_⟩⟩))
      have MMr178:MemS (fun k=>k<w0.heap.size) w0 wd51 [(bo,.cells (cn .u8 (genL 16 (fun i=>(dig (mK (rOf K) T k%1361129467683753853853498429727072845819+sOf K)).getD i 0%256) 0)) 94),(bg,.cells (cn .u64 (dig ((mK (rOf K) T k)+5))) 293),(bh,.cells (cn .u64 (dig ((mK (rOf K) T k%1361129467683753853853498429727072845819)+(sOf K)))) 293),(be,.cells (cn .u64 (dig (sOf K))) 293),(br,.cells (cn .u64 (dig (rOf K))) 293),(b2,.cells (cn .u8 (List.replicate 16 0)) 94),(b1,.cells (cn .u8 K) 51)] []:=by rw [←genL_zero 16 (fun i=>(dig (mK (rOf K) T k%1361129467683753853853498429727072845819+sOf K)).getD i 0%256)];exact MM51
      refine wp_seq ?_
      refine wp_seq (rg_c FF51 MMr178 [] 17 [] [] (fun _ _ FF52 MM52=>tN ?_))
      refine wp_for2 (fun a' w'=>∃j:Nat,j≤16∧Fr 115 a' [(16,iN j),(15,pT bo),(14,pT bg),(11,iN (16*k)),(10,pT bh),(9,iN (4*4)),(8,iN (4*4+3)),(7,iN 16),(6,pT be),(5,pT br),(4,pT b2),(2,pT b1),(1,sB T)]∧MemS (fun k=>k<w0.heap.size) w0 w' [(bo,.cells (cn .u8 (genL 16 (fun i=>(dig (mK (rOf K) T k%1361129467683753853853498429727072845819+sOf K)).getD i 0%256) j)) 94),(bg,.cells (cn .u64 (dig ((mK (rOf K) T k)+5))) 293),(bh,.cells (cn .u64 (dig ((mK (rOf K) T k%1361129467683753853853498429727072845819)+(sOf K)))) 293),(be,.cells (cn .u64 (dig (sOf K))) 293),(br,.cells (cn .u64 (dig (rOf K))) 293),(b2,.cells (cn .u8 (List.replicate 16 0)) 94),(b1,.cells (cn .u8 K) 51)] []) (fun a' _=>(16-cnt 16 a').toNat) ⟨0,by omega,FF52.pick [0,1,2,3,4,5,6,7,8,9,10,11,12],MM52⟩ ?_
      rintro ac53 wd53 ⟨j,hj,FF53,MM53⟩
      have hcj:=cnt_of (FF53.get 0 rfl)
      refine rg_c FF53 MM53 [] 17 [105] [] (fun _ _ FF54 MM54=>?_)
      by_cases hltj:j<16
      ·skip
       refine tN (.inl ⟨(FF54.ev 0 rfl).trans (dec_t hltj),?_⟩)
       refine rg_c FF54 MM54 [(2,w_ 1),(0,l_ 2 (iW ((dig ((mK (rOf K) T k%1361129467683753853853498429727072845819)+(sOf K))).getD j 0))),(1,w_ 1),(0,s_ 0 (.cells (cn .u8 (genL 16 (fun i=>(dig (mK (rOf K) T k%1361129467683753853853498429727072845819+sOf K)).getD i 0%256) (j+1))) 94))] 17 [] [] (⟨by omega,rfl,(cn_get _ _ _ (by rw [(dig_len _)];omega)),by omega,rfl,(by rw [cZ,(genL_len _ _ _)];omega),(.inl rfl),((cn_set _ _ _ _).trans (congrArg _ (genL_step _ _ j (by omega) rfl))),fun _ _ FF55 MM55=>?_⟩)
       refine inb_n (tN ?_)
       refine rg_c FF55 MM55 [] 17 [] [] (⟨by omega,fun _ _ FF56 MM56=>?_⟩)
       have hdj:=cnt_of (FF56.get 0 rfl)
       refine tN ⟨⟨j+1,by omega,FF56.pick [0,1,2,3,4,5,6,7,8,9,10,11,12],MM56⟩,?_⟩
       rw [hcj,hdj];omega
      ·skip
       refine tN (.inr ⟨(FF54.ev 0 rfl).trans (dec_f hltj),?_⟩)
       obtain rfl:j=16:=by omega
       refine tN ?_
       refine wp_seq (rg_c FF54 MM54 [(0,b_ 0),(0,b_ 5)] 17 [] [] (⟨rfl,((cZ _ _).trans (genL_len _ _ _)),rfl,((cZ _ _).trans (List.length_replicate ..)),((cZ _ _).trans (genL_len _ _ _)),(cn_one _ _),rfl,fun _ _ FF57 MM57=>tN ?_⟩))
       refine wp_ret ?_
       repeat first | refine tR ?_ | refine iR ?_
       exact(retc FF57 MM57 (k:=16) (i:=5) (j:=10) Tryz.results153 rfl rfl Tryz.underlying94 rfl (by kernel_rfl) ((cZ _ _).trans (genL_len _ _ _)) ⟨by rw [out_leB,mAll_mod _ T k (by omega) hk,←poly_leB],MM57.below⟩)
theorem set_same {l:List Nat}{i x:Nat}(h:i<l.length):(l.set i x).getD i 0=x:=by simp [List.getD_eq_getElem?_getD,h]
theorem set_other {l:List Nat}{i j x:Nat}(h:i≠j):(l.set i x).getD j 0=l.getD j 0:=by simp [List.getD_eq_getElem?_getD,h]
theorem qset_eq {l m1 m2 m3 m4 m5 m6 m7 m8:List Nat}{a b c d xa xb xc xd s1 s2 s3 s4 s5 s6 s7 s8:Nat}(ha_:a<16∧a≠b∧a≠c∧a≠d)(hb_:b<16∧b≠c∧b≠d)(hc_:c<16∧c≠d)(hd_:d<16)(ea:l.getD a 0=xa)(eb:l.getD b 0=xb)(ec:l.getD c 0=xc)(ed:l.getD d 0=xd)
  (f1:(xa+xb)%4294967296=s1) (f2:rN 65536 65536 (xd ^^^ s1)=s2) (f3:(xc+s2)%4294967296=s3) (f4:rN 4096 1048576 (xb ^^^ s3)=s4) (f5:(s1+s4)%4294967296=s5) (f6:rN 256 16777216 (s2 ^^^ s5)=s6) (f7:(s3+s6)%4294967296=s7) (f8:rN 128 33554432 (s4 ^^^ s7)=s8)
  (g1:l.set a s1=m1) (g2:m1.set d s2=m2) (g3:m2.set c s3=m3) (g4:m3.set b s4=m4) (g5:m4.set a s5=m5) (g6:m5.set d s6=m6) (g7:m6.set c s7=m7) (g8:m7.set b s8=m8) (hl:l.length=16):m8=qAt l a b c d:=by
 have e:qAt l a b c d=(((l.set a s5).set b s8).set c s7).set d s6:=by
  subst ea eb ec ed f1 f2 f3 f4 f5 f6 f7 f8
  rfl
 rw [e]
 subst g1 g2 g3 g4 g5 g6 g7 g8
 refine ext_getD (by simp only [List.length_set]) fun i h=>?_
 simp only [getD_set,List.length_set]
 by_cases h1:b=i
 ·subst h1;simp [hb_.2.1.symm,hb_.2.2.symm,hb_.1,hl]
 by_cases h2:c=i
 ·subst h2;simp [h1,hc_.2.symm,hc_.1,hl]
 by_cases h3:d=i
 ·subst h3;simp [h1,h2,hd_,hl]
 by_cases h4:a=i
 ·subst h4;simp [h1,h2,h3,ha_.1,hl]
 simp [h1,h2,h3,h4]
set_option maxHeartbeats 1000000 in
theorem rquarter_any (l:List Nat)(H:Words l)(a b c d:Nat)(ha_:a<16∧a≠b∧a≠c∧a≠d)(hb_:b<16∧b≠c∧b≠d)(hc_:c<16∧c≠d)(hd_:d<16)(w0:World) :
  Calls Tryz.prog 182 #[.agg (cn .u32 l),iN a,iN b,iN c,iN d] w0 fun e w'=>e=.returned (.agg (cn .u32 (qAt l a b c d)))∧Below w0.heap.size w0 w':=by
 refine eF Tryz.func182 rfl Tryz.ntmps182 (by simp) fun ac (FF:Fr 84 ac [(0,.agg (cn .u32 l)),(1,iN a),(2,iN b),(3,iN c),(4,iN d)])=>?_
 have MM:=MemS.start w0
 obtain⟨xa,ea⟩:∃z,l.getD a 0=z:=⟨_,rfl⟩
 have ha:xa<4294967296:=ea▸H.lt a
 obtain⟨xb,eb⟩:∃z,l.getD b 0=z:=⟨_,rfl⟩
 have hb:xb<4294967296:=eb▸H.lt b
 obtain⟨xc,ec⟩:∃z,l.getD c 0=z:=⟨_,rfl⟩
 have hc:xc<4294967296:=ec▸H.lt c
 obtain⟨xd,ed⟩:∃z,l.getD d 0=z:=⟨_,rfl⟩
 have hd:xd<4294967296:=ed▸H.lt d
 refine wp_seq (rg_c FF MM [(0,s_ 0 (.cells (cn .u32 l) 241)),(0,s_ 0 (.cells (cn .u32 (List.replicate 16 0)) 241))] 11 [] [0] (⟨(by kernel_rfl),fun bs=>⟨(by kernel_rfl),fun br=>fun _ _ FF1 MM1=>tN ?_⟩⟩))
 obtain⟨s1,fs1⟩:∃z,(xa+xb)%4294967296=z:=⟨_,rfl⟩
 have hs1:s1<4294967296:=fs1▸(Nat.mod_lt _ (by decide))
 refine wp_seq (rg_dc 8 FF1 MM1 [(1,w_ 1),(0,l_ 1 (.int .u32 (xa:Nat))),(1,w_ 1),(0,l_ 1 (.int .u32 (xb:Nat))),(0,t_ (.int .u32 (s1:Nat))),(0,w_ 1)] [(0,s_ 1 (.cells (cn .u32 (l.set a s1)) 241))] 11 [] [] (⟨by omega,rfl,((cn_get _ _ _ (by rw [H.len];omega)).trans (congrArg some (vI ea))),by omega,rfl,((cn_get _ _ _ (by rw [H.len];omega)).trans (congrArg some (vI eb))),(vI fs1),by omega,rfl,(by rw [cZ,H.len];omega),(.inl rfl),(cn_set _ _ _ _),fun _ _ FF2 MM2=>tN ?_⟩))
 obtain⟨m1,g1⟩:∃z,l.set a s1=z:=⟨_,rfl⟩
 have n1:m1.length=16:=by rw [←g1,List.length_set];exact H.len
 have q1a:m1.getD a 0=s1:=by rw [←g1];exact set_same (by rw [H.len];omega)
 have q1b:m1.getD b 0=xb:=by rw [←g1];exact(set_other (by omega)).trans eb
 have q1c:m1.getD c 0=xc:=by rw [←g1];exact(set_other (by omega)).trans ec
 have q1d:m1.getD d 0=xd:=by rw [←g1];exact(set_other (by omega)).trans ed
 have MMr20:MemS _ _ _ [_,(bs,.cells (cn .u32 m1) 241)] _:=MM2.eqA 1 rfl (by rw [←g1] <;> rfl)
 obtain⟨s2,fs2⟩:∃z,rN 65536 65536 (xd ^^^ s1)=z:=⟨_,rfl⟩
 have hs2:s2<4294967296:=fs2▸rN_lt 65536 65536 _ (xor_lt hd hs1)
 refine wp_seq (rg_dc 10 FF2 MMr20 [(2,w_ 1),(0,l_ 1 (.int .u32 (xd:Nat))),(1,w_ 1),(0,l_ 1 (.int .u32 (s1:Nat))),(1,t_ (.int .u32 (s2:Nat))),(0,w_ 1)] [(0,s_ 1 (.cells (cn .u32 (m1.set d s2)) 241))] 11 [] [] (⟨by omega,rfl,((cn_get _ _ _ (by rw [n1];omega)).trans (congrArg some (vI q1d))),by omega,rfl,((cn_get _ _ _ (by rw [n1];omega)).trans (congrArg some (vI q1a))),hd,hs1,(by rw [←fs2];exact(cP en_left (left_any (xd ^^^ s1) 16 65536 65536 (xor_lt hd hs1) (by decide) (by decide) rfl rfl) _)),by omega,rfl,(by rw [cZ,n1];omega),(.inl rfl),(cn_set _ _ _ _),fun _ _ FF3 MM3=>tN ?_⟩))
 obtain⟨m2,g2⟩:∃z,m1.set d s2=z:=⟨_,rfl⟩
 have n2:m2.length=16:=by rw [←g2,List.length_set];exact n1
 have q2a:m2.getD a 0=s1:=by rw [←g2];exact(set_other (by omega)).trans q1a
 have q2b:m2.getD b 0=xb:=by rw [←g2];exact(set_other (by omega)).trans q1b
 have q2c:m2.getD c 0=xc:=by rw [←g2];exact(set_other (by omega)).trans q1c
 have q2d:m2.getD d 0=s2:=by rw [←g2];exact set_same (by rw [n1];omega)
 have MMr30:MemS _ _ _ [_,(bs,.cells (cn .u32 m2) 241)] _:=MM3.eqA 1 rfl (by rw [←g2] <;> rfl)
 obtain⟨s3,fs3⟩:∃z,(xc+s2)%4294967296=z:=⟨_,rfl⟩
 have hs3:s3<4294967296:=fs3▸(Nat.mod_lt _ (by decide))
 refine wp_seq (rg_dc 8 FF3 MMr30 [(1,w_ 1),(0,l_ 1 (.int .u32 (xc:Nat))),(1,w_ 1),(0,l_ 1 (.int .u32 (s2:Nat))),(0,t_ (.int .u32 (s3:Nat))),(0,w_ 1)] [(0,s_ 1 (.cells (cn .u32 (m2.set c s3)) 241))] 11 [] [] (⟨by omega,rfl,((cn_get _ _ _ (by rw [n2];omega)).trans (congrArg some (vI q2c))),by omega,rfl,((cn_get _ _ _ (by rw [n2];omega)).trans (congrArg some (vI q2d))),(vI fs3),by omega,rfl,(by rw [cZ,n2];omega),(.inl rfl),(cn_set _ _ _ _),fun _ _ FF4 MM4=>tN ?_⟩))
 obtain⟨m3,g3⟩:∃z,m2.set c s3=z:=⟨_,rfl⟩
 have n3:m3.length=16:=by rw [←g3,List.length_set];exact n2
 have q3a:m3.getD a 0=s1:=by rw [←g3];exact(set_other (by omega)).trans q2a
 have q3b:m3.getD b 0=xb:=by rw [←g3];exact(set_other (by omega)).trans q2b
 have q3c:m3.getD c 0=s3:=by rw [←g3];exact set_same (by rw [n2];omega)
 have q3d:m3.getD d 0=s2:=by rw [←g3];exact(set_other (by omega)).trans q2d
 have MMr40:MemS _ _ _ [_,(bs,.cells (cn .u32 m3) 241)] _:=MM4.eqA 1 rfl (by rw [←g3] <;> rfl)
 obtain⟨s4,fs4⟩:∃z,rN 4096 1048576 (xb ^^^ s3)=z:=⟨_,rfl⟩
 have hs4:s4<4294967296:=fs4▸rN_lt 4096 1048576 _ (xor_lt hb hs3)
 refine wp_seq (rg_dc 10 FF4 MMr40 [(2,w_ 1),(0,l_ 1 (.int .u32 (xb:Nat))),(1,w_ 1),(0,l_ 1 (.int .u32 (s3:Nat))),(1,t_ (.int .u32 (s4:Nat))),(0,w_ 1)] [(0,s_ 1 (.cells (cn .u32 (m3.set b s4)) 241))] 11 [] [] (⟨by omega,rfl,((cn_get _ _ _ (by rw [n3];omega)).trans (congrArg some (vI q3b))),by omega,rfl,((cn_get _ _ _ (by rw [n3];omega)).trans (congrArg some (vI q3c))),hb,hs3,(by rw [←fs4];exact(cP en_left (left_any (xb ^^^ s3) 12 4096 1048576 (xor_lt hb hs3) (by decide) (by decide) rfl rfl) _)),by omega,rfl,(by rw [cZ,n3];omega),(.inl rfl),(cn_set _ _ _ _),fun _ _ FF5 MM5=>tN ?_⟩))
 obtain⟨m4,g4⟩:∃z,m3.set b s4=z:=⟨_,rfl⟩
 have n4:m4.length=16:=by rw [←g4,List.length_set];exact n3
 have q4a:m4.getD a 0=s1:=by rw [←g4];exact(set_other (by omega)).trans q3a
 have q4b:m4.getD b 0=s4:=by rw [←g4];exact set_same (by rw [n3];omega)
 have q4c:m4.getD c 0=s3:=by rw [←g4];exact(set_other (by omega)).trans q3c
 have q4d:m4.getD d 0=s2:=by rw [←g4];exact(set_other (by omega)).trans q3d
 have MMr50:MemS _ _ _ [_,(bs,.cells (cn .u32 m4) 241)] _:=MM5.eqA 1 rfl (by rw [←g4] <;> rfl)
 obtain⟨s5,fs5⟩:∃z,(s1+s4)%4294967296=z:=⟨_,rfl⟩
 have hs5:s5<4294967296:=fs5▸(Nat.mod_lt _ (by decide))
 refine wp_seq (rg_dc 8 FF5 MMr50 [(1,w_ 1),(0,l_ 1 (.int .u32 (s1:Nat))),(1,w_ 1),(0,l_ 1 (.int .u32 (s4:Nat))),(0,t_ (.int .u32 (s5:Nat))),(0,w_ 1)] [(0,s_ 1 (.cells (cn .u32 (m4.set a s5)) 241))] 11 [] [] (⟨by omega,rfl,((cn_get _ _ _ (by rw [n4];omega)).trans (congrArg some (vI q4a))),by omega,rfl,((cn_get _ _ _ (by rw [n4];omega)).trans (congrArg some (vI q4b))),(vI fs5),by omega,rfl,(by rw [cZ,n4];omega),(.inl rfl),(cn_set _ _ _ _),fun _ _ FF6 MM6=>tN ?_⟩))
 obtain⟨m5,g5⟩:∃z,m4.set a s5=z:=⟨_,rfl⟩
 have n5:m5.length=16:=by rw [←g5,List.length_set];exact n4
 have q5a:m5.getD a 0=s5:=by rw [←g5];exact set_same (by rw [n4];omega)
 have q5b:m5.getD b 0=s4:=by rw [←g5];exact(set_other (by omega)).trans q4b
 have q5c:m5.getD c 0=s3:=by rw [←g5];exact(set_other (by omega)).trans q4c
 have q5d:m5.getD d 0=s2:=by rw [←g5];exact(set_other (by omega)).trans q4d
 have MMr60:MemS _ _ _ [_,(bs,.cells (cn .u32 m5) 241)] _:=MM6.eqA 1 rfl (by rw [←g5] <;> rfl)
 obtain⟨s6,fs6⟩:∃z,rN 256 16777216 (s2 ^^^ s5)=z:=⟨_,rfl⟩
 have hs6:s6<4294967296:=fs6▸rN_lt 256 16777216 _ (xor_lt hs2 hs5)
 refine wp_seq (rg_dc 10 FF6 MMr60 [(2,w_ 1),(0,l_ 1 (.int .u32 (s2:Nat))),(1,w_ 1),(0,l_ 1 (.int .u32 (s5:Nat))),(1,t_ (.int .u32 (s6:Nat))),(0,w_ 1)] [(0,s_ 1 (.cells (cn .u32 (m5.set d s6)) 241))] 11 [] [] (⟨by omega,rfl,((cn_get _ _ _ (by rw [n5];omega)).trans (congrArg some (vI q5d))),by omega,rfl,((cn_get _ _ _ (by rw [n5];omega)).trans (congrArg some (vI q5a))),hs2,hs5,(by rw [←fs6];exact(cP en_left (left_any (s2 ^^^ s5) 8 256 16777216 (xor_lt hs2 hs5) (by decide) (by decide) rfl rfl) _)),by omega,rfl,(by rw [cZ,n5];omega),(.inl rfl),(cn_set _ _ _ _),fun _ _ FF7 MM7=>tN ?_⟩))
 obtain⟨m6,g6⟩:∃z,m5.set d s6=z:=⟨_,rfl⟩
 have n6:m6.length=16:=by rw [←g6,List.length_set];exact n5
 have q6a:m6.getD a 0=s5:=by rw [←g6];exact(set_other (by omega)).trans q5a
 have q6b:m6.getD b 0=s4:=by rw [←g6];exact(set_other (by omega)).trans q5b
 have q6c:m6.getD c 0=s3:=by rw [←g6];exact(set_other (by omega)).trans q5c
 have q6d:m6.getD d 0=s6:=by rw [←g6];exact set_same (by rw [n5];omega)
 have MMr70:MemS _ _ _ [_,(bs,.cells (cn .u32 m6) 241)] _:=MM7.eqA 1 rfl (by rw [←g6] <;> rfl)
 obtain⟨s7,fs7⟩:∃z,(s3+s6)%4294967296=z:=⟨_,rfl⟩
 have hs7:s7<4294967296:=fs7▸(Nat.mod_lt _ (by decide))
 refine wp_seq (rg_dc 8 FF7 MMr70 [(1,w_ 1),(0,l_ 1 (.int .u32 (s3:Nat))),(1,w_ 1),(0,l_ 1 (.int .u32 (s6:Nat))),(0,t_ (.int .u32 (s7:Nat))),(0,w_ 1)] [(0,s_ 1 (.cells (cn .u32 (m6.set c s7)) 241))] 11 [] [] (⟨by omega,rfl,((cn_get _ _ _ (by rw [n6];omega)).trans (congrArg some (vI q6c))),by omega,rfl,((cn_get _ _ _ (by rw [n6];omega)).trans (congrArg some (vI q6d))),(vI fs7),by omega,rfl,(by rw [cZ,n6];omega),(.inl rfl),(cn_set _ _ _ _),fun _ _ FF8 MM8=>tN ?_⟩))
 obtain⟨m7,g7⟩:∃z,m6.set c s7=z:=⟨_,rfl⟩
 have n7:m7.length=16:=by rw [←g7,List.length_set];exact n6
 have q7a:m7.getD a 0=s5:=by rw [←g7];exact(set_other (by omega)).trans q6a
 have q7b:m7.getD b 0=s4:=by rw [←g7];exact(set_other (by omega)).trans q6b
 have q7c:m7.getD c 0=s7:=by rw [←g7];exact set_same (by rw [n6];omega)
 have q7d:m7.getD d 0=s6:=by rw [←g7];exact(set_other (by omega)).trans q6d
 have MMr80:MemS _ _ _ [_,(bs,.cells (cn .u32 m7) 241)] _:=MM8.eqA 1 rfl (by rw [←g7] <;> rfl)
 obtain⟨s8,fs8⟩:∃z,rN 128 33554432 (s4 ^^^ s7)=z:=⟨_,rfl⟩
 have hs8:s8<4294967296:=fs8▸rN_lt 128 33554432 _ (xor_lt hs4 hs7)
 refine wp_seq (rg_dc 10 FF8 MMr80 [(2,w_ 1),(0,l_ 1 (.int .u32 (s4:Nat))),(1,w_ 1),(0,l_ 1 (.int .u32 (s7:Nat))),(1,t_ (.int .u32 (s8:Nat))),(0,w_ 1)] [(0,s_ 1 (.cells (cn .u32 (m7.set b s8)) 241))] 11 [] [] (⟨by omega,rfl,((cn_get _ _ _ (by rw [n7];omega)).trans (congrArg some (vI q7b))),by omega,rfl,((cn_get _ _ _ (by rw [n7];omega)).trans (congrArg some (vI q7c))),hs4,hs7,(by rw [←fs8];exact(cP en_left (left_any (s4 ^^^ s7) 7 128 33554432 (xor_lt hs4 hs7) (by decide) (by decide) rfl rfl) _)),by omega,rfl,(by rw [cZ,n7];omega),(.inl rfl),(cn_set _ _ _ _),fun _ _ FF9 MM9=>tN ?_⟩))
 obtain⟨m8,g8⟩:∃z,m7.set b s8=z:=⟨_,rfl⟩
 have n8:m8.length=16:=by rw [←g8,List.length_set];exact n7
 have q8a:m8.getD a 0=s5:=by rw [←g8];exact(set_other (by omega)).trans q7a
 have q8b:m8.getD b 0=s8:=by rw [←g8];exact set_same (by rw [n7];omega)
 have q8c:m8.getD c 0=s7:=by rw [←g8];exact(set_other (by omega)).trans q7c
 have q8d:m8.getD d 0=s6:=by rw [←g8];exact(set_other (by omega)).trans q7d
 have MMr90:MemS _ _ _ [_,(bs,.cells (cn .u32 m8) 241)] _:=MM9.eqA 1 rfl (by rw [←g8] <;> rfl)
 refine wp_seq (rg_c FF9 MMr90 [(0,b_ 1),(0,b_ 0)] 11 [] [] (⟨rfl,((cZ _ _).trans n8),rfl,((cZ _ _).trans (List.length_replicate ..)),((cZ _ _).trans n8),(cn_one _ _),rfl,fun _ _ FF10 MM10=>tN ?_⟩))
 refine wp_ret ?_
 repeat first | refine tR ?_ | refine iR ?_
 exact(retc FF10 MM10 (k:=16) (i:=0) (j:=0) Tryz.results182 rfl rfl Tryz.underlying241 rfl (by kernel_rfl) ((cZ _ _).trans n8) ⟨by rw [qset_eq ha_ hb_ hc_ hd_ ea eb ec ed fs1 fs2 fs3 fs4 fs5 fs6 fs7 fs8 g1 g2 g3 g4 g5 g6 g7 g8 H.len],MM10.below⟩)
theorem setTo_len13 (ks ns:List Nat)(c i:Nat):(setTo 13 ns ((setTo 4 ks (lay0 0) 8).set 12 c) i).length=16:=(setTo_len _ _ _ _).trans (by rw [List.length_set];exact setTo_len16 _ _ _ _)
set_option maxHeartbeats 1000000 in
theorem rBlock_any (ks ns:List Nat)(c:Nat)(hks:Bytes 32 ks)(hc:c<4294967296)(hns:Bytes 12 ns)(w0:World) :
  Calls Tryz.prog 152 #[.agg (cn .u8 ks),.int .u32 (c:Nat),.agg (cn .u8 ns)] w0 fun e w'=>e=.returned (sB (blockN ks c ns))∧Below w0.heap.size w0 w':=by
 refine eF Tryz.func152 rfl Tryz.ntmps152 (by simp) fun ac (FF:Fr 114 ac [(0,.agg (cn .u8 ks)),(1,.int .u32 (c:Nat)),(2,.agg (cn .u8 ns))])=>?_
 have MM:=MemS.start w0
 refine wp_seq (rg_c FF MM [(0,s_ 0 (.cells (cn .u8 ks) 51)),(0,s_ 0 (.cells (cn .u8 ns) 123)),(0,t_ (sB []))] 7 [] [0,2] (⟨(by kernel_rfl),fun bk=>⟨(by kernel_rfl),fun bn=>⟨(by kernel_rfl),fun _ _ FF1 MM1=>tN ?_⟩⟩⟩))
 refine wp_seq (rg_c FF1 MM1 [(0,t_ (.agg (cn .u32 ([1634760805,857760878,2036477234,1797285236,0,0,0,0,0,0,0,0,0,0,0,0])))),(0,s_ 0 (.cells (cn .u32 (List.replicate 16 0)) 241)),(0,b_ 0)] 8 [] [] (⟨(by kernel_rfl),(by kernel_rfl),fun bw=>⟨rfl,((cZ _ _).trans (List.length_replicate ..)),((cZ _ _).trans rfl),(cn_one _ _),rfl,fun _ _ FF2 MM2=>tN ?_⟩⟩))
 have MMr4:MemS _ _ _ [(bw,.cells (cn .u32 (setTo 4 ks (lay0 0) 0)) 241),_,_] _:=MM2
 refine wp_seq ?_
 refine wp_seq (rg_c FF2 MMr4 [] 9 [] [] (fun _ _ FF3 MM3=>tN ?_))
 refine wp_for2 (fun a' w'=>∃i:Nat,i≤8∧Fr 114 a' [(8,iN i),(7,pT bw),(6,sB []),(5,pT bn),(3,pT bk),(1,.int .u32 (c:Nat))]∧MemS (fun k=>k<w0.heap.size) w0 w' [(bw,.cells (cn .u32 (setTo 4 ks (lay0 0) i)) 241),(bn,.cells (cn .u8 ns) 123),(bk,.cells (cn .u8 ks) 51)] []) (fun a' _=>(8-cnt 8 a').toNat) ⟨0,Nat.zero_le _,FF3.pick [0,1,2,3,4,5],MM3⟩ ?_
 rintro ac4 wd4 ⟨i,hi,FF4,MM4⟩
 have hcn:=cnt_of (FF4.get 0 rfl)
 refine rg_c FF4 MM4 [] 9 [19] [] (fun _ _ FF5 MM5=>?_)
 by_cases hltn:i<8
 ·skip
  refine tN (.inl ⟨(FF5.ev 0 rfl).trans (dec_t hltn),?_⟩)
  refine rg_c FF5 MM5 [(7,w_ 2),(0,l_ 2 (sB (quad ks i))),(0,t_ (.int .u32 (cwdAt ks i:Nat))),(0,w_ 1),(0,s_ 0 (.cells (cn .u32 ((setTo 4 ks (lay0 0) i).set (4+i) (cwdAt ks i))) 241))] 9 [] [] (⟨by omega,by omega,by omega,by omega,by omega,by omega,by omega,rfl,(by rw [←cutQ ks i (by rw [hks.len];omega)];exact str_part hks.len hks.lt (by omega)),(cP en_four (four_any (quad ks i) rfl (quad_lt hks.lt i)) _),by omega,rfl,(by rw [cZ,(setTo_len16 _ _ _ _)];omega),(.inl rfl),(cn_set _ _ _ _),fun _ _ FF6 MM6=>?_⟩)
  have MMr15:MemS _ _ _ [(bw,.cells (cn .u32 (setTo 4 ks (lay0 0) (i+1))) 241),_,_] _:=MM6
  refine inb_n (tN ?_)
  refine rg_c FF6 MMr15 [] 9 [] [] (⟨by omega,fun _ _ FF7 MM7=>?_⟩)
  have hdn:=cnt_of (FF7.get 0 rfl)
  refine tN ⟨⟨i+1,by omega,FF7.pick [0,1,2,3,4,5],MM7⟩,?_⟩
  rw [hcn,hdn];omega
 ·skip
  refine tN (.inr ⟨(FF5.ev 0 rfl).trans (dec_f hltn),?_⟩)
  obtain rfl:i=8:=by omega
  refine tN ?_
  refine wp_seq (rg_c FF5 MM5 [(1,w_ 1),(0,s_ 0 (.cells (cn .u32 ((setTo 4 ks (lay0 0) 8).set 12 c)) 241))] 9 [] [1] (⟨by decide,rfl,(by rw [cZ,(setTo_len16 _ _ _ _)];decide),(.inl rfl),(cn_set _ _ _ _),fun _ _ FF8 MM8=>tN ?_⟩))
  have MMr26:MemS _ _ _ [(bw,.cells (cn .u32 (setTo 13 ns ((setTo 4 ks (lay0 0) 8).set 12 c) 0)) 241),_,_] _:=MM8
  refine wp_seq ?_
  refine wp_seq (rg_c FF8 MMr26 [] 9 [9] [] (fun _ _ FF9 MM9=>tN ?_))
  refine wp_for2 (fun a' w'=>∃i:Nat,i≤3∧Fr 114 a' [(9,iN i),(8,iN 8),(7,pT bw),(6,sB []),(5,pT bn),(3,pT bk)]∧MemS (fun k=>k<w0.heap.size) w0 w' [(bw,.cells (cn .u32 (setTo 13 ns ((setTo 4 ks (lay0 0) 8).set 12 c) i)) 241),(bn,.cells (cn .u8 ns) 123),(bk,.cells (cn .u8 ks) 51)] []) (fun a' _=>(3-cnt 9 a').toNat) ⟨0,Nat.zero_le _,FF9.pick [0,1,2,3,4,5],MM9⟩ ?_
  rintro ac10 wd10 ⟨i,hi,FF10,MM10⟩
  have hcn:=cnt_of (FF10.get 0 rfl)
  refine rg_c FF10 MM10 [] 10 [36] [] (fun _ _ FF11 MM11=>?_)
  by_cases hltn:i<3
  ·skip
   refine tN (.inl ⟨(FF11.ev 0 rfl).trans (dec_t hltn),?_⟩)
   refine rg_c FF11 MM11 [(7,w_ 2),(0,l_ 1 (sB (quad ns i))),(0,t_ (.int .u32 (cwdAt ns i:Nat))),(0,w_ 1),(0,s_ 0 (.cells (cn .u32 ((setTo 13 ns ((setTo 4 ks (lay0 0) 8).set 12 c) i).set (13+i) (cwdAt ns i))) 241))] 9 [9] [] (⟨by omega,by omega,by omega,by omega,by omega,by omega,by omega,rfl,(by rw [←cutQ ns i (by rw [hns.len];omega)];exact str_part hns.len hns.lt (by omega)),(cP en_four (four_any (quad ns i) rfl (quad_lt hns.lt i)) _),by omega,rfl,(by rw [cZ,(setTo_len13 _ _ _ _)];omega),(.inl rfl),(cn_set _ _ _ _),fun _ _ FF12 MM12=>?_⟩)
   have MMr37:MemS _ _ _ [(bw,.cells (cn .u32 (setTo 13 ns ((setTo 4 ks (lay0 0) 8).set 12 c) (i+1))) 241),_,_] _:=MM12
   refine inb_n (tN ?_)
   refine rg_c FF12 MMr37 [] 9 [9] [] (⟨by omega,fun _ _ FF13 MM13=>?_⟩)
   have hdn:=cnt_of (FF13.get 0 rfl)
   refine tN ⟨⟨i+1,by omega,FF13.pick [0,1,2,3,4,5],MM13⟩,?_⟩
   rw [hcn,hdn];omega
  ·skip
   refine tN (.inr ⟨(FF11.ev 0 rfl).trans (dec_f hltn),?_⟩)
   obtain rfl:i=3:=by omega
   obtain⟨l,el⟩:∃z,laid ks c ns=z:=⟨_,rfl⟩
   have H:Words l:=el▸laid_words hks hc hns
   have MMr48:MemS _ _ _ [(bw,.cells (cn .u32 l) 241),_,_] _:=MM11.eqA 0 rfl (by rw [←el] <;> rfl)
   refine tN ?_
   refine wp_seq (rg_c FF11 MMr48 [(0,b_ 0),(0,s_ 0 (.cells (cn .u32 (List.replicate 16 0)) 241)),(0,b_ 0)] 11 [] [] (⟨rfl,((cZ _ _).trans H.len),(by kernel_rfl),fun bx=>⟨rfl,((cZ _ _).trans (List.length_replicate ..)),((cZ _ _).trans H.len),(cn_one _ _),rfl,fun _ _ FF14 MM14=>tN ?_⟩⟩))
   have MMr51:MemS _ _ _ [(bx,.cells (cn .u32 (dblN l 0)) 241),_,_,_] _:=MM14
   refine wp_seq ?_
   refine wp_seq (rg_c FF14 MMr51 [] 12 [] [] (fun _ _ FF15 MM15=>tN ?_))
   refine wp_for2 (fun a' w'=>∃k:Nat,k≤10∧Fr 114 a' [(11,iN k),(10,pT bx),(9,iN 3),(8,iN 8),(7,pT bw),(6,sB []),(5,pT bn),(3,pT bk)]∧MemS (fun k=>k<w0.heap.size) w0 w' [(bx,.cells (cn .u32 (dblN l k)) 241),(bw,.cells (cn .u32 l) 241),(bn,.cells (cn .u8 ns) 123),(bk,.cells (cn .u8 ks) 51)] []) (fun a' _=>(10-cnt 11 a').toNat) ⟨0,Nat.zero_le _,FF15.pick [0,1,2,3,4,5,6,7],MM15⟩ ?_
   rintro ac16 wd16 ⟨k,hk,FF16,MM16⟩
   have hck:=cnt_of (FF16.get 0 rfl)
   refine rg_c FF16 MM16 [] 12 [52] [] (fun _ _ FF17 MM17=>?_)
   by_cases hltk:k<10
   ·skip
    refine tN (.inl ⟨(FF17.ev 0 rfl).trans (dec_t hltk),?_⟩)
    refine wp_seq ?_
    refine wp_seq (rg_c FF17 MM17 [] 13 [] [] (fun _ _ FF18 MM18=>tN ?_))
    have MMr63:MemS _ _ _ [(bx,.cells (cn .u32 (colTo (dblN l k) 0)) 241),_,_,_] _:=MM18
    refine wp_for2 (fun a' w'=>∃i:Nat,i≤4∧Fr 114 a' [(12,iN i),(11,iN k),(10,pT bx),(9,iN 3),(8,iN 8),(7,pT bw),(6,sB []),(5,pT bn),(3,pT bk)]∧MemS (fun k=>k<w0.heap.size) w0 w' [(bx,.cells (cn .u32 (colTo (dblN l k) i)) 241),(bw,.cells (cn .u32 l) 241),(bn,.cells (cn .u8 ns) 123),(bk,.cells (cn .u8 ks) 51)] []) (fun a' _=>(4-cnt 12 a').toNat) ⟨0,Nat.zero_le _,FF18.pick [0,1,2,3,4,5,6,7,8],MMr63⟩ ?_
    rintro ac19 wd19 ⟨i,hi,FF19,MM19⟩
    have hcn:=cnt_of (FF19.get 0 rfl)
    refine rg_c FF19 MM19 [] 13 [56] [] (fun _ _ FF20 MM20=>?_)
    by_cases hltn:i<4
    ·skip
     refine tN (.inl ⟨(FF20.ev 0 rfl).trans (dec_t hltn),?_⟩)
     refine rg_c FF20 MM20 [(0,b_ 0),(7,t_ (.agg (cn .u32 (qAt (colTo (dblN l k) i) i (4+i) (8+i) (12+i))))),(0,b_ 0)] 13 [] [] (⟨rfl,((cZ _ _).trans ((H.dblN k).colTo i).len),by omega,by omega,by omega,(cP en_rquarter (rquarter_any (colTo (dblN l k) i) ((H.dblN k).colTo i) i (4+i) (8+i) (12+i) (by omega) (by omega) (by omega) (by omega)) _),rfl,((cZ _ _).trans ((H.dblN k).colTo i).len),((cZ _ _).trans (((H.dblN k).colTo i).qAt i (4+i) (8+i) (12+i)).len),(cn_one _ _),rfl,fun _ _ FF21 MM21=>?_⟩)
     have MMr72:MemS _ _ _ [(bx,.cells (cn .u32 (colTo (dblN l k) (i+1))) 241),_,_,_] _:=MM21
     refine inb_n (tN ?_)
     refine rg_c FF21 MMr72 [] 13 [] [] (⟨by omega,fun _ _ FF22 MM22=>?_⟩)
     have hdn:=cnt_of (FF22.get 0 rfl)
     refine tN ⟨⟨i+1,by omega,FF22.pick [0,1,2,3,4,5,6,7,8],MM22⟩,?_⟩
     rw [hcn,hdn];omega
    ·skip
     refine tN (.inr ⟨(FF20.ev 0 rfl).trans (dec_f hltn),?_⟩)
     obtain rfl:i=4:=by omega
     refine tN ?_
     refine wp_seq (rg_c FF20 MM20 [] 14 [] [] (fun _ _ FF23 MM23=>tN ?_))
     have MMr83:MemS _ _ _ [(bx,.cells (cn .u32 (diagTo (colTo (dblN l k) 4) 0)) 241),_,_,_] _:=MM23
     refine wp_for2 (fun a' w'=>∃i:Nat,i≤4∧Fr 114 a' [(13,iN i),(12,iN 4),(11,iN k),(10,pT bx),(9,iN 3),(8,iN 8),(7,pT bw),(6,sB []),(5,pT bn),(3,pT bk)]∧MemS (fun k=>k<w0.heap.size) w0 w' [(bx,.cells (cn .u32 (diagTo (colTo (dblN l k) 4) i)) 241),(bw,.cells (cn .u32 l) 241),(bn,.cells (cn .u8 ns) 123),(bk,.cells (cn .u8 ks) 51)] []) (fun a' _=>(4-cnt 13 a').toNat) ⟨0,Nat.zero_le _,FF23.pick [0,1,2,3,4,5,6,7,8,9],MMr83⟩ ?_
     rintro ac24 wd24 ⟨i,hi,FF24,MM24⟩
     have hcn:=cnt_of (FF24.get 0 rfl)
     refine rg_c FF24 MM24 [] 14 [69] [] (fun _ _ FF25 MM25=>?_)
     by_cases hltn:i<4
     ·skip
      refine tN (.inl ⟨(FF25.ev 0 rfl).trans (dec_t hltn),?_⟩)
      refine rg_c FF25 MM25 [(0,b_ 0),(13,t_ (.agg (cn .u32 (qAt (diagTo (colTo (dblN l k) 4) i) i (4+((i+1)%4)) (8+((i+2)%4)) (12+((i+3)%4)))))),(0,b_ 0)] 14 [] [] (⟨rfl,((cZ _ _).trans (((H.dblN k).colTo 4).diagTo i).len),by omega,by decide,by omega,by omega,by decide,by omega,by omega,by decide,by omega,(cP en_rquarter (rquarter_any (diagTo (colTo (dblN l k) 4) i) (((H.dblN k).colTo 4).diagTo i) i (4+((i+1)%4)) (8+((i+2)%4)) (12+((i+3)%4)) (by omega) (by omega) (by omega) (by omega)) _),rfl,((cZ _ _).trans (((H.dblN k).colTo 4).diagTo i).len),((cZ _ _).trans ((((H.dblN k).colTo 4).diagTo i).qAt i (4+((i+1)%4)) (8+((i+2)%4)) (12+((i+3)%4))).len),(cn_one _ _),rfl,fun _ _ FF26 MM26=>?_⟩)
      have MMr92:MemS _ _ _ [(bx,.cells (cn .u32 (diagTo (colTo (dblN l k) 4) (i+1))) 241),_,_,_] _:=MM26
      refine inb_n (tN ?_)
      refine rg_c FF26 MMr92 [] 14 [] [] (⟨by omega,fun _ _ FF27 MM27=>?_⟩)
      have hdn:=cnt_of (FF27.get 0 rfl)
      refine tN ⟨⟨i+1,by omega,FF27.pick [0,1,2,3,4,5,6,7,8,9],MM27⟩,?_⟩
      rw [hcn,hdn];omega
     ·skip
      refine tN (.inr ⟨(FF25.ev 0 rfl).trans (dec_f hltn),?_⟩)
      obtain rfl:i=4:=by omega
      have MMr101:MemS _ _ _ [(bx,.cells (cn .u32 (dblN l (k+1))) 241),_,_,_] _:=MM25
      refine inb_n (tN ?_)
      refine rg_c FF25 MMr101 [] 14 [] [] (⟨by omega,fun _ _ FF28 MM28=>?_⟩)
      have hdk:=cnt_of (FF28.get 0 rfl)
      refine tN ⟨⟨k+1,by omega,FF28.pick [0,3,4,5,6,7,8,9],MM28⟩,?_⟩
      rw [hck,hdk];omega
   ·skip
    refine tN (.inr ⟨(FF17.ev 0 rfl).trans (dec_f hltk),?_⟩)
    obtain rfl:k=10:=by omega
    refine tN ?_
    refine wp_seq (rg_c FF17 MM17 [] 15 [] [] (fun _ _ FF29 MM29=>tN ?_))
    have MMn112:=MM29.rowNil 5 1
    have MMn112:MemS _ _ _ _ _:=MMn112
    refine wp_seq ?_
    refine wp_seq (rg_c FF29 MMn112 [] 16 [] [] (fun _ _ FF30 MM30=>tN ?_))
    refine wp_for2 (fun a' w'=>∃rv:Value,∃i:Nat,i≤16∧Fr 114 a' [(15,iN i),(14,rv),(11,iN 10),(10,pT bx),(9,iN 3),(8,iN 8),(7,pT bw),(6,sB []),(5,pT bn),(3,pT bk)]∧MemS (fun k=>k<w0.heap.size) w0 w' [(bx,.cells (cn .u32 (dblN l 10)) 241),(bw,.cells (cn .u32 l) 241),(bn,.cells (cn .u8 ns) 123),(bk,.cells (cn .u8 ks) 51)] [(rv,5,1,4*i,(bcells (outTo (dblN l 10) l i)))]) (fun a' _=>(16-cnt 15 a').toNat) ⟨(.slice none 0 0),0,Nat.zero_le _,FF30.pick [0,1,2,3,4,5,6,7,8,9],MM30⟩ ?_
    rintro ac31 wd31 ⟨rv,i,hi,FF31,MM31⟩
    have hcn:=cnt_of (FF31.get 0 rfl)
    refine rg_c FF31 MM31 [] 16 [88] [] (fun _ _ FF32 MM32=>?_)
    by_cases hltn:i<16
    ·skip
     refine tN (.inl ⟨(FF32.ev 0 rfl).trans (dec_t hltn),?_⟩)
     refine wp_seq (rg_dc 8 FF32 MM32 [(1,w_ 1),(0,l_ 0 (.int .u32 ((dblN l 10).getD i 0:Nat))),(1,w_ 1),(0,l_ 1 (.int .u32 (l.getD i 0:Nat))),(0,t_ (.int .u32 (sumW (dblN l 10) l i:Nat)))] [] 17 [] [] (⟨by omega,rfl,(cn_get _ _ _ (by rw [(H.dblN 10).len];omega)),by omega,rfl,(cn_get _ _ _ (by rw [H.len];omega)),rfl,fun _ _ FF33 MM33=>tN ?_⟩))
     refine wp_region_list ?_
     refine rp_c 13 FF33 MM33 [(2,t_ (iB (sumW (dblN l 10) l i%256))),(1,t_ (.int .u32 ((sumW (dblN l 10) l i)/256:Nat))),(0,t_ (iB (sumW (dblN l 10) l i/256%256))),(1,t_ (.int .u32 ((sumW (dblN l 10) l i)/65536:Nat))),(0,t_ (iB (sumW (dblN l 10) l i/65536%256))),(1,t_ (.int .u32 ((sumW (dblN l 10) l i)/16777216:Nat))),(0,t_ (iB (sumW (dblN l 10) l i/16777216%256))),(0,s_ 0 (.cells (cn .u8 ([sumW (dblN l 10) l i%256,sumW (dblN l 10) l i/256%256,sumW (dblN l 10) l i/65536%256,sumW (dblN l 10) l i/16777216%256])) 5))] 99 [110] [] (⟨rfl,by decide,rfl,rfl,by decide,rfl,rfl,by decide,rfl,rfl,(by kernel_rfl),fun bq=>fun _ _ FF34 MM34=>?_⟩)
     refine st_app [16,15,14,11,10,9,8,7,6,5,3,111] FF34 MM34 (d:=111) (s:=98) (x:=110) (Y:=(bcells [sumW (dblN l 10) l i%256,sumW (dblN l 10) l i/256%256,sumW (dblN l 10) l i/65536%256,sumW (dblN l 10) l i/16777216%256])) (z:=iB 0) (bb:=1) rfl rfl rfl rfl (lies_cn8 (MM34.get 0 rfl)) (bcells_one _) (by decide) Tryz.underlying77 (by kernel_rfl) rfl (by decide) (by simp only [maxLen];omega) (by omega) rfl rfl (by decide) fun ac36 wd36 rv35 FF36 MM36=>?_
     have MMr37:MemS _ _ _ _ [(rv35,5,1,(4*i+4),(bcells (outTo (dblN l 10) l (i+1))))]:=MM36.eqR (by rw [show(bcells (outTo (dblN l 10) l (i+1)))=((bcells (outTo (dblN l 10) l i))++(bcells [sumW (dblN l 10) l i%256,sumW (dblN l 10) l i/256%256,sumW (dblN l 10) l i/65536%256,sumW (dblN l 10) l i/16777216%256]))from(bcells_app _ _).symm] <;> rfl)
     refine rp_c 1 FF36 MMr37 [] 17 [] [] (fun _ _ FF38 MM38=>?_)
     refine wpl_nil ?_
     refine inb_n (tN ?_)
     refine rg_c FF38 MM38 [] 17 [] [] (⟨by omega,fun _ _ FF39 MM39=>?_⟩)
     have hdn:=cnt_of (FF39.get 0 rfl)
     refine tN ⟨⟨rv35,i+1,by omega,FF39.pick [0,1,3,4,5,6,7,8,9,10],MM39.sub [1,2,3,4] rfl⟩,?_⟩
     rw [hcn,hdn];omega
    ·skip
     refine tN (.inr ⟨(FF32.ev 0 rfl).trans (dec_f hltn),?_⟩)
     obtain rfl:i=16:=by omega
     refine tN ?_
     refine wp_seq (wp_region_list ?_)
     refine rp_c 1 FF32 MM32 [] 16 [112] [] (fun _ _ FF40 MM40=>?_)
     refine st_strS [15,14,11,10,9,8,7,6,5,3,113] FF40 MM40 (fun j=>by rw [outTo_all];exact blockW_lt l j) (d:=113) (s:=112) rfl rfl Tryz.underlying77 Tryz.underlying5 Tryz.underlying9 rfl rfl (by decide) fun _ FF41=>?_
     refine rp_c 1 FF41 MM40 [] 16 [] [] (fun _ _ FF42 MM42=>?_)
     refine wpl_nil (tN ?_)
     refine wp_ret ?_
     repeat first | refine tR ?_ | refine iR ?_
     exact(ret_fr FF42 0 Tryz.results152 rfl ⟨by subst el;rw [outTo_all];rfl,MM42.below⟩)
set_option maxHeartbeats 1000000 in
theorem rMask_any (ks ns X:List Nat)(c0:Nat)(hks:Bytes 32 ks)(hc:c0<4294967296)(hns:Bytes 12 ns)(hX:∀i,X.getD i 0<256)(hl:X.length≤1000000)(w0:World) :
  Calls Tryz.prog 122 #[.agg (cn .u8 ks),.int .u32 (c0:Nat),.agg (cn .u8 ns),sB X] w0 fun e w'=>e=.returned (sB (maskN ks c0 ns X))∧Below w0.heap.size w0 w':=by
 refine eF Tryz.func122 rfl Tryz.ntmps122 (by simp) fun ac (FF:Fr 40 ac [(0,.agg (cn .u8 ks)),(1,.int .u32 (c0:Nat)),(2,.agg (cn .u8 ns)),(3,sB X)])=>?_
 have MM:=MemS.start w0
 refine wp_seq (rg_c FF MM [(0,s_ 0 (.cells (cn .u8 ks) 51)),(0,s_ 0 (.cells (cn .u8 ns) 123)),(0,t_ (sB []))] 9 [] [0,2] (⟨(by kernel_rfl),fun bk=>⟨(by kernel_rfl),fun bn=>⟨(by kernel_rfl),fun _ _ FF1 MM1=>tN ?_⟩⟩⟩))
 refine wp_seq (rg_c FF1 MM1 [] 9 [9] [] (fun _ _ FF2 MM2=>tN ?_))
 have MMn4:=MM2.rowNil 5 1
 have MMn4:MemS _ _ _ _ _:=MMn4
 refine wp_seq (rg_c FF2 MMn4 [(0,t_ (sB []))] 11 [] [] (⟨(by kernel_rfl),fun _ _ FF3 MM3=>tN ?_⟩))
 refine wp_seq ?_
 refine wp_seq (rg_c FF3 MM3 [] 12 [] [] (fun _ _ FF4 MM4=>tN ?_))
 refine wp_for2 (fun a' w'=>∃rv:Value,∃i:Nat,∃B:List Nat,∃q:Nat,i≤X.length∧(i%64≠0→B=blockN ks ((c0+i/64)%4294967296) ns)∧q=(c0+(i+63)/64)%4294967296∧(∀j,B.getD j 0<256)∧Fr 40 a' [(11,iN i),(10,sB B),(9,rv),(8,sB []),(6,pT bn),(4,pT bk),(1,.int .u32 (q:Nat)),(3,sB X)]∧MemS (fun k=>k<w0.heap.size) w0 w' [(bn,.cells (cn .u8 ns) 123),(bk,.cells (cn .u8 ks) 51)] [(rv,5,1,i,(bcells (mkTo ks c0 ns X i)))]) (fun a' _=>(X.length-cnt 11 a').toNat) ⟨(.slice none 0 0),0,[],c0,Nat.zero_le _,(fun h=>absurd rfl h),by omega,(fun j=>by simp),FF4.pick [0,1,2,3,4,5,6,7],MM4⟩ ?_
 rintro ac5 wd5 ⟨rv,i,B,q,hi,hB,hq,hBb,FF5,MM5⟩
 have hcn:=cnt_of (FF5.get 0 rfl)
 refine rg_c FF5 MM5 [(2,t_ (iN X.length))] 12 [15] [] (⟨(vI (bs_size _)),fun _ _ FF6 MM6=>?_⟩)
 by_cases hltn:i<X.length
 ·skip
  refine tN (.inl ⟨(FF6.ev 0 rfl).trans (dec_t hltn),?_⟩)
  refine wp_seq ?_
  by_cases h64:i%64=0
  ·skip
   refine wp_seq (rg_c FF6 MM6 [(2,w_ 2)] 12 [20] [] (⟨by decide,h64,fun _ _ FF7 MM7=>tN ?_⟩))
   refine wp_cond_true (FF7.ev 0 rfl) ?_
   have hqb:q<4294967296:=hq▸Nat.mod_lt _ (by decide)
   have hqe:q=(c0+i/64)%4294967296:=by rw [hq];congr 2;omega
   refine wp_seq (rg_c FF7 MM7 [(0,b_ 1),(1,b_ 0),(0,t_ (sB (blockN ks q ns)))] 12 [] [] (⟨rfl,((cZ _ _).trans hks.len),rfl,((cZ _ _).trans hns.len),(cP en_rBlock (rBlock_any ks ns q ⟨hks.len,hks.lt⟩ hqb ⟨hns.len,hns.lt⟩) _),fun _ _ FF8 MM8=>tN ?_⟩))
   refine rg_c FF8 MM8 [] 12 [] [] (fun _ _ FF9 MM9=>?_)
   refine tN ?_
   have hE:blockN ks q ns=blockN ks ((c0+i/64)%4294967296) ns:=by rw [hqe]
   have hBN:∀j,(blockN ks q ns).getD j 0<256:=blockW_lt _
   have hlB:(blockN ks q ns).length=64:=by rw [hE];exact blockW_len _
   have hN:(i+1)%64≠0→blockN ks q ns=blockN ks ((c0+((i+1)/64))%4294967296) ns:=fun h=>by rw [hE,show(i+1)/64=i/64 by omega]
   have hm:=mkTo_succ ks c0 ns X i
   rw [←hE]at hm
   obtain⟨z,hz⟩:∃z,X.getD i 0 ^^^ (blockN ks q ns).getD (i%64) 0=z:=⟨_,rfl⟩
   rw [hz]at hm
   refine rg_drawL FF9 MM9 [.inl (rv),.inl (sB X),.inl (iN i),.inl (iB (X.getD i 0)),.inl (sB (blockN ks q ns)),.inl (iN i),.inl (iN (i%64)),.inl (iB ((blockN ks q ns).getD (i%64) 0)),.inl (iB z),.inr (.cells (cn .u8 [z]) 5,fun b=>.slice (some ⟨b,0,none⟩) 1 1)] [] [o_,o_,o_,t_ (iB (X.getD i 0)),o_,o_,o_,t_ (iB ((blockN ks q ns).getD (i%64) 0)),t_ (iB z),o_] [36,27,1,10,11,9,8,6,4,3] (fun nb=>[i<(bs X).size,(nl (bs X)).getD i 0=X.getD i 0,64≠0,(i%64)<(bs (blockN ks q ns)).size,(nl (bs (blockN ks q ns))).getD (i%64) 0=(blockN ks q ns).getD (i%64) 0,(X.getD i 0)<256,((blockN ks q ns).getD (i%64) 0)<256,iB ((X.getD i 0) ^^^ ((blockN ks q ns).getD (i%64) 0))=iB z]) (by kernel_rfl) (by kernel_rfl) (by kernel_rfl) (fun _=>by kernel_rfl) (trivial) (fun nb=>⟨(by simp only [bs_size];omega),(byte_bs hX _),by decide,(by simp only [bs_size,hlB];omega),(byte_bs (blockW_lt _) _),(by have:=hX i;omega),(by have:=hBN (i%64);omega),(vI hz),trivial⟩) fun nb ac10 wd10 (FF10:Fr 40 ac10 [(36,.slice (some ⟨(nb 9),0,none⟩) 1 1),(27,rv),(1,.int .u32 ((q+1)%4294967296:Nat)),(10,sB (blockN ks q ns)),(11,iN i),(9,rv),(8,sB []),(6,pT bn),(4,pT bk),(3,sB X)]) (MM10:MemS (fun k=>k<w0.heap.size) w0 wd10 [(bn,.cells (cn .u8 ns) 123),(bk,.cells (cn .u8 ks) 51)] [(rv,5,1,i,(bcells (mkTo ks c0 ns X i)))]) hfx11=>?_
   have hb_bq:wd10.heap[nb 9]? = some (.cells (cn .u8 [z]) 5):=hfx11.1.2
   clear hfx11
   generalize nb 9=bq at *
   refine st_app [1,10,11,9,8,6,4,3,37] FF10 MM10 (d:=37) (s:=27) (x:=36) (Y:=(bcells [z])) (z:=iB 0) (bb:=1) rfl rfl rfl rfl (lies_cn8 hb_bq) (bcells_one _) (by decide) Tryz.underlying77 (by kernel_rfl) rfl (by decide) (by simp only [maxLen];omega) (by omega) rfl rfl (by decide) fun ac14 wd14 rv13 FF14 MM14=>?_
   have MMr15:MemS _ _ _ _ [(rv13,5,1,(i+1),(bcells (mkTo ks c0 ns X (i+1))))]:=MM14.eqR (by rw [show(bcells (mkTo ks c0 ns X (i+1)))=((bcells (mkTo ks c0 ns X i))++(bcells [z]))by rw [hm];exact(bcells_app _ _).symm] <;> rfl)
   refine rp_c 1 FF14 MMr15 [] 12 [] [] (fun _ _ FF16 MM16=>?_)
   refine wpl_nil ?_
   refine inb_n (tN ?_)
   refine rg_c FF16 MM16 [] 12 [] [] (⟨by omega,fun _ _ FF17 MM17=>?_⟩)
   have hdn:=cnt_of (FF17.get 0 rfl)
   refine tN ⟨⟨rv13,i+1,blockN ks q ns,(q+1)%4294967296,by omega,(fun h=>hN h),by omega,hBN,FF17.pick [0,3,1,4,5,6,2,7],MM17⟩,?_⟩
   rw [hcn,hdn];omega
  ·skip
   refine wp_seq (rg_c FF6 MM6 [(2,w_ 3)] 12 [20] [] (⟨by decide,h64,fun _ _ FF18 MM18=>tN ?_⟩))
   refine wp_cond_false (FF18.ev 0 rfl) ?_
   refine wp_skip ?_
   refine tN ?_
   have hE:B=blockN ks ((c0+i/64)%4294967296) ns:=hB h64
   have hBN:∀j,(B).getD j 0<256:=hBb
   have hlB:(B).length=64:=by rw [hE];exact blockW_len _
   have hN:(i+1)%64≠0→B=blockN ks ((c0+((i+1)/64))%4294967296) ns:=fun h=>by rw [hE,show(i+1)/64=i/64 by omega]
   have hm:=mkTo_succ ks c0 ns X i
   rw [←hE]at hm
   obtain⟨z,hz⟩:∃z,X.getD i 0 ^^^ (B).getD (i%64) 0=z:=⟨_,rfl⟩
   rw [hz]at hm
   refine rg_drawL FF18 MM18 [.inl (rv),.inl (sB X),.inl (iN i),.inl (iB (X.getD i 0)),.inl (sB B),.inl (iN i),.inl (iN (i%64)),.inl (iB ((B).getD (i%64) 0)),.inl (iB z),.inr (.cells (cn .u8 [z]) 5,fun b=>.slice (some ⟨b,0,none⟩) 1 1)] [] [o_,o_,o_,t_ (iB (X.getD i 0)),o_,o_,o_,t_ (iB ((B).getD (i%64) 0)),t_ (iB z),o_] [36,27,11,10,9,8,6,4,1,3] (fun nb=>[i<(bs X).size,(nl (bs X)).getD i 0=X.getD i 0,64≠0,(i%64)<(bs B).size,(nl (bs B)).getD (i%64) 0=(B).getD (i%64) 0,(X.getD i 0)<256,((B).getD (i%64) 0)<256,iB ((X.getD i 0) ^^^ ((B).getD (i%64) 0))=iB z]) (by kernel_rfl) (by kernel_rfl) (by kernel_rfl) (fun _=>by kernel_rfl) (trivial) (fun nb=>⟨(by simp only [bs_size];omega),(byte_bs hX _),by decide,(by simp only [bs_size,hlB];omega),(byte_bs hBb _),(by have:=hX i;omega),(by have:=hBN (i%64);omega),(vI hz),trivial⟩) fun nb ac19 wd19 (FF19:Fr 40 ac19 [(36,.slice (some ⟨(nb 9),0,none⟩) 1 1),(27,rv),(11,iN i),(10,sB B),(9,rv),(8,sB []),(6,pT bn),(4,pT bk),(1,.int .u32 (q:Nat)),(3,sB X)]) (MM19:MemS (fun k=>k<w0.heap.size) w0 wd19 [(bn,.cells (cn .u8 ns) 123),(bk,.cells (cn .u8 ks) 51)] [(rv,5,1,i,(bcells (mkTo ks c0 ns X i)))]) hfx20=>?_
   have hb_bq:wd19.heap[nb 9]? = some (.cells (cn .u8 [z]) 5):=hfx20.1.2
   clear hfx20
   generalize nb 9=bq at *
   refine st_app [11,10,9,8,6,4,1,3,37] FF19 MM19 (d:=37) (s:=27) (x:=36) (Y:=(bcells [z])) (z:=iB 0) (bb:=1) rfl rfl rfl rfl (lies_cn8 hb_bq) (bcells_one _) (by decide) Tryz.underlying77 (by kernel_rfl) rfl (by decide) (by simp only [maxLen];omega) (by omega) rfl rfl (by decide) fun ac23 wd23 rv22 FF23 MM23=>?_
   have MMr24:MemS _ _ _ _ [(rv22,5,1,(i+1),(bcells (mkTo ks c0 ns X (i+1))))]:=MM23.eqR (by rw [show(bcells (mkTo ks c0 ns X (i+1)))=((bcells (mkTo ks c0 ns X i))++(bcells [z]))by rw [hm];exact(bcells_app _ _).symm] <;> rfl)
   refine rp_c 1 FF23 MMr24 [] 12 [] [] (fun _ _ FF25 MM25=>?_)
   refine wpl_nil ?_
   refine inb_n (tN ?_)
   refine rg_c FF25 MM25 [] 12 [] [] (⟨by omega,fun _ _ FF26 MM26=>?_⟩)
   have hdn:=cnt_of (FF26.get 0 rfl)
   refine tN ⟨⟨rv22,i+1,B,q,by omega,(fun h=>hN h),by omega,hBN,FF26.pick [0,2,1,3,4,5,6,7],MM26⟩,?_⟩
   rw [hcn,hdn];omega
 ·skip
  refine tN (.inr ⟨(FF6.ev 0 rfl).trans (dec_f hltn),?_⟩)
  obtain rfl:i=X.length:=by omega
  refine tN ?_
  refine wp_seq (wp_region_list ?_)
  refine rp_c 1 FF6 MM6 [] 12 [38] [] (fun _ _ FF27 MM27=>?_)
  refine st_strS [11,10,9,8,6,4,1,3,39] FF27 MM27 (fun j=>by rw [mkTo_all];exact maskN_lt ks c0 ns X hX j) (d:=39) (s:=38) rfl rfl Tryz.underlying77 Tryz.underlying5 Tryz.underlying9 rfl rfl (by decide) fun _ FF28=>?_
  refine rp_c 1 FF28 MM27 [] 12 [] [] (fun _ _ FF29 MM29=>?_)
  refine wpl_nil (tN ?_)
  refine wp_ret ?_
  repeat first | refine tR ?_ | refine iR ?_
  exact(ret_fr FF29 0 Tryz.results122 rfl ⟨by rw [mkTo_all],MM29.below⟩)
theorem en_rpad:Enters Tryz.prog 154:=fun args w=>by simp [go_sem]
theorem en_reight:Enters Tryz.prog 155:=fun args w=>by simp [go_sem]
theorem en_rtag:Enters Tryz.prog 123:=fun args w=>by simp [go_sem]
theorem en_rPoly:Enters Tryz.prog 153:=fun args w=>by simp [go_sem]
theorem en_rSeal:Enters Tryz.prog 84:=fun args w=>by simp [go_sem]
theorem rpad_any (X:List Nat)(hl:X.length<4611686018427387904)(w0:World) :
  Calls Tryz.prog 154 #[sB X] w0 fun e w'=>e=.returned (sB (X++missN X))∧Below w0.heap.size w0 w':=by
 refine eF Tryz.func154 rfl Tryz.ntmps154 (by simp) fun ac (FF:Fr 10 ac [(0,sB X)])=>?_
 have MM:=MemS.start w0
 refine wp_seq (rg_c FF MM [(0,t_ (sB []))] 3 [] [] (⟨(by kernel_rfl),fun ac1 _ FF1 MM1=>tN ?_⟩))
 have FFx:Fr 10 ac1 [(2,sB []),(0,sB (X++List.replicate 0 0))]:=by simpa using FF1
 refine wp_seq ?_
 refine wp_for2w (fun a' w'=>∃k:Nat,k≤(16-X.length%16)%16∧Fr 10 a' [(2,sB []),(0,sB (X++List.replicate k 0))]∧MemS (fun k=>k<w0.heap.size) w0 w' [] []) (fun a' _=>X.length+16-strLen 0 a') ⟨0,Nat.zero_le _,FFx.pick [0,1],MM1⟩ ?_
 rintro ac2 wd2 ⟨k,hk,FF2,MM2⟩
 have hc:=strLen_of (FF2.get 1 rfl)
 refine rg_c FF2 MM2 [(1,t_ (iN (X.length+k)))] 3 [6] [] (⟨(vI ((bs_size _).trans (rep_len _ _))),by decide,fun _ _ FF3 MM3=>?_⟩)
 by_cases hlt:((X.length+k)%16)≠0
 ·skip
  refine tN (.inl ⟨(FF3.ev 0 rfl).trans (dec_t hlt),?_⟩)
  refine rg_c FF3 MM3 [(1,t_ (sB (X++List.replicate (k+1) 0)))] 3 [] [] (⟨(show(bs (X++List.replicate k 0)).size+(bs [0]).size≤9223372036854775807 from(by rw [bs_size,bs_size,rep_len];simp;omega)),(Eq.trans (show _=Value.string (bs (X++List.replicate k 0)++bs [0])by kernel_rfl) (vS2 ((bs_app _ _).trans (congrArg bs (by rw [List.append_assoc,←List.replicate_succ']))))),fun _ _ FF4 MM4=>?_⟩)
  refine inb_n ?_
  have hd:=strLen_of (FF4.get 0 rfl)
  refine tN ⟨⟨k+1,by omega,FF4.pick [1,0],MM4⟩,?_⟩
  rw [hc,hd,bs_size,bs_size,rep_len,rep_len];omega
 ·skip
  refine tN (.inr ⟨(FF3.ev 0 rfl).trans (dec_f hlt),?_⟩)
  obtain rfl:k=(16-X.length%16)%16:=by omega
  refine tN ?_
  refine wp_seq (rg_c FF3 MM3 [] 3 [] [] (fun _ _ FF5 MM5=>tN ?_))
  refine wp_ret ?_
  repeat first | refine tR ?_ | refine iR ?_
  exact(ret_fr FF5 0 Tryz.results154 rfl ⟨rfl,MM5.below⟩)
theorem reight_any (n:Nat)(hl:n<4611686018427387904)(w0:World) :
  Calls Tryz.prog 155 #[iN n] w0 fun e w'=>e=.returned (sB (leB 8 n))∧Below w0.heap.size w0 w':=by
 refine eF Tryz.func155 rfl Tryz.ntmps155 (by simp) fun ac (FF:Fr 20 ac [(0,iN n)])=>?_
 have MM:=MemS.start w0
 refine wp_seq (rg_c FF MM [(0,t_ (sB []))] 3 [] [] (⟨(by kernel_rfl),fun _ _ FF1 MM1=>tN ?_⟩))
 refine wp_seq (rg_c FF1 MM1 [] 4 [] [] (fun _ _ FF2 MM2=>tN ?_))
 have MMn:=MM2.rowNil 5 1
 refine wp_seq ?_
 refine wp_seq (rg_c FF2 MMn [] 5 [] [] (fun _ _ FF3 MM3=>tN ?_))
 refine wp_for2 (fun a' w'=>∃rv:Value,∃i:Nat,i≤8∧Fr 20 a' [(4,iN i),(3,rv),(2,sB []),(0,iN n)]∧MemS (fun k=>k<w0.heap.size) w0 w' [] [(rv,5,1,i,(bcells (leB i n)))]) (fun a' _=>(8-cnt 4 a').toNat) ⟨(.slice none 0 0),0,by omega,FF3.pick [0,1,2,3],MM3⟩ ?_
 rintro ac4 wd4 ⟨rv,i,hi,FF4,MM4⟩
 have hc:=cnt_of (FF4.get 0 rfl)
 refine rg_c FF4 MM4 [] 5 [6] [] (fun _ _ FF5 MM5=>?_)
 by_cases hlt:i<8
 ·skip
  refine tN (.inl ⟨(FF5.ev 0 rfl).trans (dec_t hlt),?_⟩)
  refine wp_region_list ?_
  refine rp_c 8 FF5 MM5 [(2,w_ 1),(3,t_ (iB (n/256^i%256))),(0,s_ 0 (.cells (cn .u8 ([n/256^i%256])) 5))] 10 [16] [6] (⟨by omega,by omega,(by show _≤64;omega),(vI (by rw [Nat.pow_mul])),(by kernel_rfl),fun bq=>fun _ _ FF6 MM6=>?_⟩)
  refine st_app [4,3,2,0,17] FF6 MM6 (d:=17) (s:=9) (x:=16) (Y:=(bcells [n/256^i%256])) (z:=iB 0) (bb:=1) rfl rfl rfl rfl (lies_cn8 (MM6.get 0 rfl)) (bcells_one _) (by decide) Tryz.underlying77 (by kernel_rfl) rfl (by decide) (by simp only [maxLen];omega) (by omega) rfl rfl (by decide) fun ac8 wd8 rv7 FF8 MM8=>?_
  rw [bcells_app,←leB_more]at MM8
  refine rp_c 1 FF8 MM8 [] 5 [] [] (fun _ _ FF9 MM9=>?_)
  refine wpl_nil ?_
  refine inb_n (tN ?_)
  refine rg_c FF9 MM9 [] 5 [] [] (⟨by omega,fun _ _ FF10 MM10=>?_⟩)
  have hd:=cnt_of (FF10.get 0 rfl)
  refine tN ⟨⟨rv7,i+1,by omega,FF10.pick [0,1,2,3],MM10.sub [] rfl⟩,?_⟩
  rw [hc,hd];omega
 ·skip
  refine tN (.inr ⟨(FF5.ev 0 rfl).trans (dec_f hlt),?_⟩)
  obtain rfl:i=8:=by omega
  refine tN ?_
  refine wp_seq (wp_region_list ?_)
  refine rp_c 1 FF5 MM5 [] 5 [18] [] (fun _ _ FF11 MM11=>?_)
  refine st_strS [4,3,2,0,19] FF11 MM11 (leB_lt 8 n) (d:=19) (s:=18) rfl rfl Tryz.underlying77 Tryz.underlying5 Tryz.underlying9 rfl rfl (by decide) fun _ FF12=>?_
  refine rp_c 1 FF12 MM11 [] 5 [] [] (fun _ _ FF13 MM13=>?_)
  refine wpl_nil (tN ?_)
  refine wp_ret ?_
  repeat first | refine tR ?_ | refine iR ?_
  exact(ret_fr FF13 0 Tryz.results155 rfl ⟨rfl,MM13.below⟩)
theorem rtag_any (K N:List Nat)(hK:Bytes 32 K)(hN:Bytes 12 N)(E C:List Nat)(hE:∀i,E.getD i 0<256)(hC:∀i,C.getD i 0<256)(hl:E.length<1000000)(hl2:C.length<1000000)(w0:World) :
  Calls Tryz.prog 123 #[.agg (cn .u8 K),.agg (cn .u8 N),sB E,sB C] w0 fun e w'=>e=.returned (sB (tagA K N E C))∧Below w0.heap.size w0 w':=by
 refine eF Tryz.func123 rfl Tryz.ntmps123 (by simp) fun ac (FF:Fr 35 ac [(0,.agg (cn .u8 K)),(1,.agg (cn .u8 N)),(2,sB E),(3,sB C)])=>?_
 have MM:=MemS.start w0
 refine wp_seq (rg_c FF MM [(0,s_ 0 (.cells (cn .u8 K) 51)),(0,s_ 0 (.cells (cn .u8 N) 123)),(0,t_ (sB []))] 9 [] [0,1] (⟨(by kernel_rfl),fun bk=>⟨(by kernel_rfl),fun bn=>⟨(by kernel_rfl),fun _ _ FF1 MM1=>tN ?_⟩⟩⟩))
 refine wp_seq (rg_c FF1 MM1 [(0,t_ (.agg (cn .u8 (List.replicate 32 0)))),(0,s_ 0 (.cells (cn .u8 (List.replicate 32 0)) 51)),(0,b_ 0)] 9 [9] [] (⟨(by kernel_rfl),(by kernel_rfl),fun bo=>⟨rfl,((cZ _ _).trans (List.length_replicate ..)),((cZ _ _).trans (List.length_replicate ..)),(cn_one _ _),rfl,fun _ _ FF2 MM2=>tN ?_⟩⟩))
 refine wp_seq (rg_dc 5 FF2 MM2 [(1,b_ 2),(0,b_ 1),(0,t_ (sB (blockN K 0 N))),(0,t_ (sB (onceN K N)))] [(0,r_ (iN (min (onceN K N).length 32)) [(0,.cells (cn .u8 (onceN K N)) 51)])] 4 [9,8] [] (⟨by decide,by decide,by decide,rfl,((cZ _ _).trans hK.len),rfl,((cZ _ _).trans hN.len),(cP en_rBlock (rBlock_any K N 0 ⟨hK.len,hK.lt⟩ (by decide) ⟨hN.len,hN.lt⟩) _),(Nat.zero_le _),(by rw [bs_size,show(blockN K 0 N).length=64 from(blockW_len _)];omega),(vS2 ((bs_extract _ _ _).trans (congrArg bs (List.drop_zero ..)))),(copyStr_ok (p:=.tmp 12) (q:=.tmp 16) (t:=77) (tq:=9) (e:=5) (T:=51) (off:=0) (len:=32) (X:=onceN K N) (cs:=cn .u8 (List.replicate 32 0)) (i:=0) (by kernel_rfl) rfl rfl (onceN_bytes K N).lt Tryz.underlying77 (by kernel_rfl) rfl (by rw [cZ,List.length_replicate];decide) (by rw [List.take_of_length_le (by rw [(onceN_bytes K N).len];decide)];exact setFrom_new8 (by rw [List.length_replicate,(onceN_bytes K N).len]))),fun _ _ FF3 MM3=>tN ?_⟩))
 refine wp_seq (rg_draw FF3 MM3 [.inl (.agg (cn .u8 (onceN K N))),.inl (sB E),.inl (sB (E++missN E)),.inl (sB C),.inl (sB (C++missN C)),.inl (sB ((E++missN E)++(C++missN C))),.inl (sB E),.inl (iN E.length),.inl (sB (leB 8 E.length)),.inl (sB (((E++missN E)++(C++missN C))++(leB 8 E.length))),.inl (sB C),.inl (iN C.length),.inl (sB (leB 8 C.length)),.inl (sB (tagT E C)),.inl (.agg (cn .u8 (tagA K N E C))),.inr (.cells (cn .u8 (List.replicate 16 0)) 94,fun b=>pT b)] [15] [b_ 0,o_,t_ (sB (E++missN E)),o_,t_ (sB (C++missN C)),t_ (sB ((E++missN E)++(C++missN C))),o_,t_ (iN E.length),t_ (sB (leB 8 E.length)),t_ (sB (((E++missN E)++(C++missN C))++(leB 8 E.length))),o_,t_ (iN C.length),t_ (sB (leB 8 C.length)),t_ (sB (tagT E C)),t_ (.agg (cn .u8 (tagA K N E C))),o_] [b_ 0] [9,8,10] (fun nb=>[bo=bo,(cn .u8 (onceN K N)).size=32,CallP Tryz.prog 154 [sB E] [] (sB (E++missN E)),CallP Tryz.prog 154 [sB C] [] (sB (C++missN C)),(bs (E++missN E)).size+(bs (C++missN C)).size≤9223372036854775807,Value.string (bs (E++missN E)++bs (C++missN C))=sB ((E++missN E)++(C++missN C)),iN ((bs E).size)=iN E.length,CallP Tryz.prog 155 [iN E.length] [] (sB (leB 8 E.length)),(bs ((E++missN E)++(C++missN C))).size+(bs (leB 8 E.length)).size≤9223372036854775807,Value.string (bs ((E++missN E)++(C++missN C))++bs (leB 8 E.length))=sB (((E++missN E)++(C++missN C))++(leB 8 E.length)),iN ((bs C).size)=iN C.length,CallP Tryz.prog 155 [iN C.length] [] (sB (leB 8 C.length)),(bs (((E++missN E)++(C++missN C))++(leB 8 E.length))).size+(bs (leB 8 C.length)).size≤9223372036854775807,Value.string (bs (((E++missN E)++(C++missN C))++(leB 8 E.length))++bs (leB 8 C.length))=sB (tagT E C),CallP Tryz.prog 153 [.agg (cn .u8 (onceN K N)),sB (tagT E C)] [] (.agg (cn .u8 (tagA K N E C)))]) (fun nb Kt=>(nb 15)=(nb 15)∧(cn .u8 (List.replicate 16 0)).size=16∧(cn .u8 (tagA K N E C)).size=16∧(cn .u8 (tagA K N E C)).all (·.oneCell')=true∧(0,0).2=0∧Kt [(10,pT (nb 15)),(9,pT bo),(8,sB [])] [((nb 15),.cells (cn .u8 (tagA K N E C)) 94),(bo,.cells (cn .u8 (onceN K N)) 51),(bn,.cells (cn .u8 N) 123),(bk,.cells (cn .u8 K) 51)]) (by kernel_rfl) (by kernel_rfl) (by kernel_rfl) (fun _=>by kernel_rfl) (fun _ _=>by kernel_rfl) ⟨⟨_,rfl⟩,rfl,trivial⟩ (fun nb=>⟨rfl,((cZ _ _).trans (onceN_bytes K N).len),(cP en_rpad (rpad_any E (by omega)) _),(cP en_rpad (rpad_any C (by omega)) _),(by simp only [bs_size,List.length_append];have:=missN_len E;have:=missN_len C;omega),(vS2 (bs_app _ _)),(vI (bs_size _)),(cP en_reight (reight_any E.length (by omega)) _),(by simp only [bs_size,List.length_append,leB_len];have:=missN_len E;have:=missN_len C;omega),(vS2 (bs_app _ _)),(vI (bs_size _)),(cP en_reight (reight_any C.length (by omega)) _),(by simp only [bs_size,List.length_append,leB_len];have:=missN_len E;have:=missN_len C;omega),(vS2 (bs_app _ _)),(cP en_rPoly (rPoly_any (onceN K N) (tagT E C) ⟨(onceN_bytes K N).len,(onceN_bytes K N).lt⟩ (tagT_lt hE hC) (by have:=tagT_len E C;omega)) _),trivial⟩) (fun nb=>⟨rfl,((cZ _ _).trans (List.length_replicate ..)),((cZ _ _).trans (tagA_len _ _ _ _)),(cn_one _ _),rfl,fun _ _ FF4 MM4=>tN ?_⟩))
 generalize nb 15=bt at *
 refine wp_seq (rg_c FF4 MM4 [(1,l_ 0 (sB (tagA K N E C)))] 11 [] [] (⟨by decide,by decide,by decide,rfl,(str_all (tagA_len _ _ _ _) (tagA_lt _ _ _ _)),fun _ _ FF5 MM5=>tN ?_⟩))
 refine wp_ret ?_
 repeat first | refine tR ?_ | refine iR ?_
 exact(ret_fr FF5 0 Tryz.results123 rfl ⟨rfl,MM5.below⟩)
theorem rseal_any (K N:List Nat)(hK:Bytes 32 K)(hN:Bytes 12 N)(E X:List Nat)(hE:∀i,E.getD i 0<256)(hX:∀i,X.getD i 0<256)(hl:E.length<1000000)(hl2:X.length≤300)(w0:World) :
  Calls Tryz.prog 84 #[.agg (cn .u8 K),.agg (cn .u8 N),sB E,sB X] w0 fun e w'=>e=.returned (sB (sealN K N E X))∧Below w0.heap.size w0 w':=by
 refine eF Tryz.func84 rfl Tryz.ntmps84 (by simp) fun ac (FF:Fr 21 ac [(0,.agg (cn .u8 K)),(1,.agg (cn .u8 N)),(2,sB E),(3,sB X)])=>?_
 have MM:=MemS.start w0
 refine wp_seq (rg_c FF MM [(0,s_ 0 (.cells (cn .u8 K) 51)),(0,s_ 0 (.cells (cn .u8 N) 123)),(0,t_ (sB []))] 9 [] [0,1] (⟨(by kernel_rfl),fun bk=>⟨(by kernel_rfl),fun bn=>⟨(by kernel_rfl),fun _ _ FF1 MM1=>tN ?_⟩⟩⟩))
 refine wp_seq (rg_c FF1 MM1 [(0,b_ 1),(0,b_ 0),(1,t_ (sB (maskN K 1 N X)))] 9 [9] [3] (⟨rfl,((cZ _ _).trans hK.len),rfl,((cZ _ _).trans hN.len),(cP en_rMask (rMask_any K N X 1 ⟨hK.len,hK.lt⟩ (by decide) ⟨hN.len,hN.lt⟩ hX (by omega)) _),fun _ _ FF2 MM2=>tN ?_⟩))
 refine wp_seq (rg_c FF2 MM2 [(1,b_ 1),(0,b_ 0),(2,t_ (sB (tagA K N E (maskN K 1 N X)))),(0,t_ (sB (sealN K N E X)))] 9 [] [2] (⟨rfl,((cZ _ _).trans hK.len),rfl,((cZ _ _).trans hN.len),(cP en_rtag (rtag_any K N ⟨hK.len,hK.lt⟩ ⟨hN.len,hN.lt⟩ E (maskN K 1 N X) hE (maskN_lt _ _ _ _ hX) (by omega) (by rw [maskN_len];omega)) _),(by rw [bs_size,bs_size,maskN_len,tagA_len];omega),(vS2 (bs_app _ _)),fun _ _ FF3 MM3=>tN ?_⟩))
 refine wp_ret ?_
 repeat first | refine tR ?_ | refine iR ?_
 exact(ret_fr FF3 0 Tryz.results84 rfl ⟨rfl,MM3.below⟩)
theorem en_rtake:Enters Tryz.prog 94:=fun args w=>by simp [go_sem]
theorem en_rkey:Enters Tryz.prog 52:=fun args w=>by simp [go_sem]
theorem en_rid_:Enters Tryz.prog 83:=fun args w=>by simp [go_sem]
abbrev RB (X:List Nat)(u:Nat):Obj:=.cells #[sB X,iN u] 36
theorem rtake_any (g n:Nat)(X:List Nat)(u:Nat)(hX:∀i,X.getD i 0<256)(hu:u<4611686018427387904)(hn:n≤65536)(w0:World)(hg:w0.heap[g]? = some (RB X u)) :
  Calls Tryz.prog 94 #[pT g,iN n] w0 fun e w'=>e=.returned (sB (takN n (X.drop u)))∧Turn g (RB X (u+n)) w0 w':=by
 refine eF Tryz.func94 rfl Tryz.ntmps94 (by simp) fun ac (FF:Fr 51 ac [(0,pT g),(1,iN n)])=>?_
 have MM:MemS (fun k=>k<w0.heap.size∧∀x∈(g,oC #[sB X,iN u] 36)::([]:Blks),x.1≠k) w0 w0 ((g,oC #[sB X,iN u] 36)::([]:Blks)) []:=MemS.startN (one_has hg) ⟨fun y hy=>(nomatch hy),trivial⟩
 have hgl:∀j i,(genL n (fun j=>(X.drop u).getD j 0) j).getD i 0<256:=fun j=>genL_lt (by decide) (fun i=>dropX_lt hX u i) j
 refine wp_seq (rg_c FF MM [(0,t_ (sB []))] 5 [] [] (⟨(by kernel_rfl),fun _ _ FF1 MM1=>tN ?_⟩))
 refine wp_seq ?_
 refine wp_seq (rg_c FF1 MM1 [(1,w_ 3),(2,w_ 3)] 5 [12] [] (⟨(by have:=hn;omega),(by have:=hn;omega),fun _ _ FF2 MM2=>tN ?_⟩))
 refine wp_cond_false (FF2.ev 0 rfl) ?_
 refine wp_skip ?_
 refine tN ?_
 refine wp_seq (rg_c FF2 MM2 [(1,n_ (.slice none n n) (.cells (cn .u8 (List.replicate n 0)) 5))] 6 [] [] (⟨(make_ok (t:=77) (e:=5) (p:=(.tmp 13)) (q:=(.tmp 13)) (by kernel_rfl) rfl rfl Tryz.underlying77 (by kernel_rfl) (by have:=hn;omega)),fun bo=>fun _ _ FF3 MM3=>tN ?_⟩))
 have MMr10:MemS _ _ _ ((bo,.cells (cn .u8 (genL n (fun j=>(X.drop u).getD j 0) 0)) 5)::_::_) _:=MM3.eqA 0 rfl (by rw [←genL_zero n (fun j=>(X.drop u).getD j 0)] <;> rfl)
 refine wp_seq ?_
 refine wp_seq (rg_c FF3 MMr10 [] 7 [] [] (fun _ _ FF4 MM4=>tN ?_))
 refine wp_for2 (fun a' w'=>∃i:Nat,i≤n∧Fr 51 a' [(6,iN i),(5,.slice (some ⟨bo,0,none⟩) n n),(4,sB []),(0,pT g),(1,iN n)]∧MemS (fun k=>k<w0.heap.size∧∀x∈(g,oC #[sB X,iN u] 36)::([]:Blks),x.1≠k) w0 w' ((bo,.cells (cn .u8 (genL n (fun j=>(X.drop u).getD j 0) i)) 5)::(g,oC #[sB X,iN (u+i)] 36)::([]:Blks)) []) (fun a' _=>(n-cnt 6 a').toNat) ⟨0,Nat.zero_le _,FF4.pick [0,1,2,3,4],MM4⟩ ?_
 rintro ac5 wd5 ⟨i,hi,FF5,MM5⟩
 have hc:=cnt_of (FF5.get 0 rfl)
 refine rg_c FF5 MM5 [] 7 [17] [] (fun _ _ FF6 MM6=>?_)
 by_cases hlt:i<n
 ·skip
  refine tN (.inl ⟨(FF6.ev 0 rfl).trans (dec_t hlt),?_⟩)
  refine wp_mid (fun a' w'=>Fr 51 a' [(6,iN i),(5,.slice (some ⟨bo,0,none⟩) n n),(4,sB []),(0,pT g),(1,iN n)]∧MemS (fun k=>k<w0.heap.size∧∀x∈(g,oC #[sB X,iN u] 36)::([]:Blks),x.1≠k) w0 w' ((bo,.cells (cn .u8 (genL n (fun j=>(X.drop u).getD j 0) (i+1))) 5)::(g,oC #[sB X,iN (u+i)] 36)::([]:Blks)) []) ?_ ?_
  ·skip
   refine wp_seq (rg_dc 10 FF6 MM6 [(3,l_ 1 (iN (u+i))),(3,l_ 1 (sB X)),(0,t_ (iN X.length))] [] 7 [29] [] (⟨rfl,rfl,rfl,rfl,(vI (bs_size _)),fun _ _ FF7 MM7=>tN ?_⟩))
   by_cases hs29:(u+i)<X.length
   ·refine wp_cond_true ((FF7.ev 0 rfl).trans (dec_t hs29)) ?_
    refine rg_dc 12 FF7 MM7 [(5,l_ 1 (sB X)),(3,l_ 1 (iN (u+i))),(0,t_ (iB ((X.drop u).getD i 0))),(0,w_ 1)] [(0,s_ 0 (.cells (cn .u8 (genL n (fun j=>(X.drop u).getD j 0) (i+1))) 5))] 7 [] [] (⟨rfl,rfl,rfl,rfl,(by rw [bs_size];exact hs29),((byte_bs hX _).trans (dropD X u i).symm),by omega,rfl,(by rw [cZ,(genL_len _ _ _)];omega),(.inl rfl),((cn_set _ _ _ _).trans (congrArg _ (genL_step _ _ i (by omega) rfl))),fun _ _ FF8 MM8=>?_⟩)
    refine tN ?_
    exact⟨FF8.pick [0,1,2,3,4],MM8⟩
   ·refine wp_cond_false ((FF7.ev 0 rfl).trans (dec_f hs29)) ?_
    have MMr29:MemS _ _ _ ((bo,.cells (cn .u8 (genL n (fun j=>(X.drop u).getD j 0) (i+1))) 5)::_::_) _:=MM7.eqA 0 rfl (by rw [tk_zero (X:=X.drop u) (by simp;omega) hlt] <;> rfl)
    refine wp_skip ?_
    refine tN ?_
    exact⟨FF7.pick [1,2,3,4,5],MMr29⟩
  ·rintro ac9 wd9 ⟨FF9,MM9⟩
   refine rg_c FF9 MM9 [(3,l_ 1 (iN (u+i))),(3,s_ 1 (oC #[sB X,iN ((u+i)+1)] 36))] 7 [] [] (⟨rfl,rfl,by omega,rfl,(by simp),(.inl rfl),rfl,fun _ _ FF10 MM10=>?_⟩)
   refine inb_n (tN ?_)
   refine rg_c FF10 MM10 [] 7 [] [] (⟨by omega,fun _ _ FF11 MM11=>?_⟩)
   have hd:=cnt_of (FF11.get 0 rfl)
   refine tN ⟨⟨i+1,by omega,FF11.pick [0,1,2,3,4],MM11⟩,?_⟩
   rw [hc,hd];omega
 ·skip
  refine tN (.inr ⟨(FF6.ev 0 rfl).trans (dec_f hlt),?_⟩)
  obtain rfl:n=i:=by omega
  have MMl:MemS _ _ _ ((bo,.cells (cn .u8 (takN n (X.drop u))) 5)::_::_) _:=MM6.eqA 0 rfl (by rw [←tkI_end n (X.drop u)] <;> rfl)
  refine tN ?_
  refine wp_seq (rg_c FF6 MMl [(1,l_ 0 (sB (takN n (X.drop u))))] 7 [] [] (⟨rfl,(str_all (takN_len _ _) (takN_lt (dropX_lt hX u) n)),fun _ _ FF12 MM12=>tN ?_⟩))
  refine wp_ret ?_
  repeat first | refine tR ?_ | refine iR ?_
  exact(ret_fr FF12 0 Tryz.results94 rfl ⟨rfl,MM12.turn (O:=[]) (fun i x hx=>by simp at hx) 1 rfl (fun x hx=>(nomatch hx))⟩)
theorem rkey_any (g:Nat)(X:List Nat)(u:Nat)(hX:∀i,X.getD i 0<256)(hu:u<4611686018427387904)  (w0:World)(hg:w0.heap[g]? = some (RB X u)) :
  Calls Tryz.prog 52 #[pT g] w0 fun e w'=>e=.returned (.agg (cn .u8 (takN 32 (X.drop u))))∧Turn g (RB X (u+32)) w0 w':=by
 refine eF Tryz.func52 rfl Tryz.ntmps52 (by simp) fun ac (FF:Fr 10 ac [(0,pT g)])=>?_
 have MM:MemS (fun k=>k<w0.heap.size∧∀x∈(g,oC #[sB X,iN u] 36)::([]:Blks),x.1≠k) w0 w0 ((g,oC #[sB X,iN u] 36)::([]:Blks)) []:=MemS.startN (one_has hg) ⟨fun y hy=>(nomatch hy),trivial⟩
 refine wp_seq (rg_c FF MM [(0,s_ 0 (.cells (cn .u8 (List.replicate 32 0)) 51))] 3 [] [] (⟨(by kernel_rfl),fun br=>fun _ _ FF1 MM1=>tN ?_⟩))
 refine wp_seq (rg_c FF1 MM1 [(0,t_ (.agg (cn .u8 (List.replicate 32 0)))),(0,s_ 0 (.cells (cn .u8 (List.replicate 32 0)) 51)),(0,b_ 0)] 4 [] [] (⟨(by kernel_rfl),(by kernel_rfl),fun bk=>⟨rfl,((cZ _ _).trans (List.length_replicate ..)),((cZ _ _).trans (List.length_replicate ..)),(cn_one _ _),rfl,fun _ _ FF2 MM2=>tN ?_⟩⟩))
 refine wp_mid (fun a' w'=>Fr 10 a' [(3,pT bk),(2,pT br)]∧MemS (fun k=>k<w0.heap.size∧∀x∈(g,oC #[sB X,iN u] 36)::([]:Blks),x.1≠k) w0 w' ((bk,.cells (cn .u8 (takN 32 (X.drop u))) 51)::(br,.cells (cn .u8 (List.replicate 32 0)) 51)::(g,oC #[sB X,iN (u+32)] 36)::([]:Blks)) []) ?_ ?_
 ·skip
  refine draw_open (N:=4) (by kernel_rfl) (by kernel_rfl) MM2 fun wq3 (MM4:MemS (fun k=>k<w0.heap.size∧∀x∈(g,oC #[sB X,iN u] 36)::([]:Blks),x.1≠k) w0 wq3 ((bk,.cells (cn .u8 (List.replicate 32 0)) 51)::(br,.cells (cn .u8 (List.replicate 32 0)) 51)::(g,oC #[sB X,iN u] 36)::([]:Blks)) [])=>?_
  refine take_op FF2 (i:=1) (oi:=(opAt Tryz.f52 2 1)) (v:=(pT g)) (d:=6) (by kernel_rfl) (by kernel_rfl) (by kernel_rfl) (by kernel_rfl) (fun _ _ _ _ _ h=>h) (by kernel_rfl) (by decide) (by kernel_rfl) (mvV (x:=(.tmp 0)) (by kernel_rfl) rfl) fun _ FF5=>?_
  refine any_two (i:=0) (oi:=(opAt Tryz.f52 2 0)) (j:=2) (oj:=(opAt Tryz.f52 2 2)) (by kernel_rfl) (by kernel_rfl) (by kernel_rfl) ?_ ?_
  ·skip
   refine rp_c 1 FF5 MM4 [] 7 [] [0] (⟨by decide,by decide,by decide,fun _ _ FF6 MM6=>?_⟩)
   refine wpl_nil (onN_n ?_)
   refine any_one (i:=2) (o:=(opAt Tryz.f52 2 2)) (by kernel_rfl) (by kernel_rfl) ?_
   refine rp_c 1 FF6 MM6 [(0,c_ (sB (takN 32 (X.drop u))) [(2,oC #[sB X,iN (u+32)] 36)])] 6 [7] [] (⟨(callU_turn en_rtake (g:=g) (ob:=RB X u) rfl fun w hg=>by have h0:=rtake_any g 32 X u hX (by omega) (by decide) w hg;exact h0),fun _ _ FF7 MM7=>?_⟩)
   refine wpl_nil (onN_n ?_)
   refine any_one (i:=3) (o:=(opAt Tryz.f52 2 3)) (by kernel_rfl) (by kernel_rfl) ?_
   refine rp_c 1 FF7 MM7 [(0,r_ (iN (min (takN 32 (X.drop u)).length 32)) [(0,.cells (cn .u8 (takN 32 (X.drop u))) 51)])] 4 [] [] (⟨(copyStr_ok (p:=.tmp 5) (q:=.tmp 7) (t:=77) (tq:=9) (e:=5) (T:=51) (off:=0) (len:=32) (X:=takN 32 (X.drop u)) (cs:=cn .u8 (List.replicate 32 0)) (i:=0) (by kernel_rfl) rfl rfl (takN_lt (dropX_lt hX u) 32) Tryz.underlying77 (by kernel_rfl) rfl (by rw [cZ,List.length_replicate];decide) (by rw [List.take_of_length_le (by rw [takN_len];decide)];exact setFrom_new8 (by rw [List.length_replicate,takN_len]))),fun _ _ FF8 MM8=>?_⟩)
   refine wpl_nil (onN_n ?_)
   refine any_none (by kernel_rfl) (tN ?_)
   exact⟨FF8.pick [0,1],MM8⟩
  ·skip
   refine rp_c 1 FF5 MM4 [(0,c_ (sB (takN 32 (X.drop u))) [(2,oC #[sB X,iN (u+32)] 36)])] 4 [7] [0] (⟨(callU_turn en_rtake (g:=g) (ob:=RB X u) rfl fun w hg=>by have h0:=rtake_any g 32 X u hX (by omega) (by decide) w hg;exact h0),fun _ _ FF9 MM9=>?_⟩)
   refine wpl_nil (onN_n ?_)
   refine any_one (i:=0) (o:=(opAt Tryz.f52 2 0)) (by kernel_rfl) (by kernel_rfl) ?_
   refine rp_c 1 FF9 MM9 [] 8 [] [] (⟨by decide,by decide,by decide,fun _ _ FF10 MM10=>?_⟩)
   refine wpl_nil (onN_n ?_)
   refine any_one (i:=3) (o:=(opAt Tryz.f52 2 3)) (by kernel_rfl) (by kernel_rfl) ?_
   refine rp_c 1 FF10 MM10 [(0,r_ (iN (min (takN 32 (X.drop u)).length 32)) [(0,.cells (cn .u8 (takN 32 (X.drop u))) 51)])] 4 [] [] (⟨(copyStr_ok (p:=.tmp 5) (q:=.tmp 7) (t:=77) (tq:=9) (e:=5) (T:=51) (off:=0) (len:=32) (X:=takN 32 (X.drop u)) (cs:=cn .u8 (List.replicate 32 0)) (i:=0) (by kernel_rfl) rfl rfl (takN_lt (dropX_lt hX u) 32) Tryz.underlying77 (by kernel_rfl) rfl (by rw [cZ,List.length_replicate];decide) (by rw [List.take_of_length_le (by rw [takN_len];decide)];exact setFrom_new8 (by rw [List.length_replicate,takN_len]))),fun _ _ FF11 MM11=>?_⟩)
   refine wpl_nil (onN_n ?_)
   refine any_none (by kernel_rfl) (tN ?_)
   exact⟨FF11.pick [0,1],MM11⟩
 ·rintro ac12 wd12 ⟨FF12,MM12⟩
  refine wp_seq (rg_c FF12 MM12 [(0,b_ 0),(0,b_ 1)] 4 [] [] (⟨rfl,((cZ _ _).trans (takN_len _ _)),rfl,((cZ _ _).trans (List.length_replicate ..)),((cZ _ _).trans (takN_len _ _)),(cn_one _ _),rfl,fun _ _ FF13 MM13=>tN ?_⟩))
  refine wp_ret ?_
  repeat first | refine tR ?_ | refine iR ?_
  exact(retc FF13 MM13 (k:=32) (i:=1) (j:=1) Tryz.results52 rfl rfl Tryz.underlying51 rfl (by kernel_rfl) ((cZ _ _).trans (takN_len _ _)) ⟨rfl,MM13.turn (O:=[]) (fun i x hx=>by simp at hx) 2 rfl (fun x hx=>(nomatch hx))⟩)
theorem rid__any (g:Nat)(X:List Nat)(u:Nat)(hX:∀i,X.getD i 0<256)(hu:u<4611686018427387904)  (w0:World)(hg:w0.heap[g]? = some (RB X u)) :
  Calls Tryz.prog 83 #[pT g] w0 fun e w'=>e=.returned (.agg (cn .u8 (takN 16 (X.drop u))))∧Turn g (RB X (u+16)) w0 w':=by
 refine eF Tryz.func83 rfl Tryz.ntmps83 (by simp) fun ac (FF:Fr 10 ac [(0,pT g)])=>?_
 have MM:MemS (fun k=>k<w0.heap.size∧∀x∈(g,oC #[sB X,iN u] 36)::([]:Blks),x.1≠k) w0 w0 ((g,oC #[sB X,iN u] 36)::([]:Blks)) []:=MemS.startN (one_has hg) ⟨fun y hy=>(nomatch hy),trivial⟩
 refine wp_seq (rg_c FF MM [(0,s_ 0 (.cells (cn .u8 (List.replicate 16 0)) 94))] 3 [] [] (⟨(by kernel_rfl),fun br=>fun _ _ FF1 MM1=>tN ?_⟩))
 refine wp_seq (rg_c FF1 MM1 [(0,t_ (.agg (cn .u8 (List.replicate 16 0)))),(0,s_ 0 (.cells (cn .u8 (List.replicate 16 0)) 94)),(0,b_ 0)] 4 [] [] (⟨(by kernel_rfl),(by kernel_rfl),fun bk=>⟨rfl,((cZ _ _).trans (List.length_replicate ..)),((cZ _ _).trans (List.length_replicate ..)),(cn_one _ _),rfl,fun _ _ FF2 MM2=>tN ?_⟩⟩))
 refine wp_mid (fun a' w'=>Fr 10 a' [(3,pT bk),(2,pT br)]∧MemS (fun k=>k<w0.heap.size∧∀x∈(g,oC #[sB X,iN u] 36)::([]:Blks),x.1≠k) w0 w' ((bk,.cells (cn .u8 (takN 16 (X.drop u))) 94)::(br,.cells (cn .u8 (List.replicate 16 0)) 94)::(g,oC #[sB X,iN (u+16)] 36)::([]:Blks)) []) ?_ ?_
 ·skip
  refine draw_open (N:=4) (by kernel_rfl) (by kernel_rfl) MM2 fun wq3 (MM4:MemS (fun k=>k<w0.heap.size∧∀x∈(g,oC #[sB X,iN u] 36)::([]:Blks),x.1≠k) w0 wq3 ((bk,.cells (cn .u8 (List.replicate 16 0)) 94)::(br,.cells (cn .u8 (List.replicate 16 0)) 94)::(g,oC #[sB X,iN u] 36)::([]:Blks)) [])=>?_
  refine take_op FF2 (i:=1) (oi:=(opAt Tryz.f83 2 1)) (v:=(pT g)) (d:=6) (by kernel_rfl) (by kernel_rfl) (by kernel_rfl) (by kernel_rfl) (fun _ _ _ _ _ h=>h) (by kernel_rfl) (by decide) (by kernel_rfl) (mvV (x:=(.tmp 0)) (by kernel_rfl) rfl) fun _ FF5=>?_
  refine any_two (i:=0) (oi:=(opAt Tryz.f83 2 0)) (j:=2) (oj:=(opAt Tryz.f83 2 2)) (by kernel_rfl) (by kernel_rfl) (by kernel_rfl) ?_ ?_
  ·skip
   refine rp_c 1 FF5 MM4 [] 7 [] [0] (⟨by decide,by decide,by decide,fun _ _ FF6 MM6=>?_⟩)
   refine wpl_nil (onN_n ?_)
   refine any_one (i:=2) (o:=(opAt Tryz.f83 2 2)) (by kernel_rfl) (by kernel_rfl) ?_
   refine rp_c 1 FF6 MM6 [(0,c_ (sB (takN 16 (X.drop u))) [(2,oC #[sB X,iN (u+16)] 36)])] 6 [7] [] (⟨(callU_turn en_rtake (g:=g) (ob:=RB X u) rfl fun w hg=>by have h0:=rtake_any g 16 X u hX (by omega) (by decide) w hg;exact h0),fun _ _ FF7 MM7=>?_⟩)
   refine wpl_nil (onN_n ?_)
   refine any_one (i:=3) (o:=(opAt Tryz.f83 2 3)) (by kernel_rfl) (by kernel_rfl) ?_
   refine rp_c 1 FF7 MM7 [(0,r_ (iN (min (takN 16 (X.drop u)).length 16)) [(0,.cells (cn .u8 (takN 16 (X.drop u))) 94)])] 4 [] [] (⟨(copyStr_ok (p:=.tmp 5) (q:=.tmp 7) (t:=77) (tq:=9) (e:=5) (T:=94) (off:=0) (len:=16) (X:=takN 16 (X.drop u)) (cs:=cn .u8 (List.replicate 16 0)) (i:=0) (by kernel_rfl) rfl rfl (takN_lt (dropX_lt hX u) 16) Tryz.underlying77 (by kernel_rfl) rfl (by rw [cZ,List.length_replicate];decide) (by rw [List.take_of_length_le (by rw [takN_len];decide)];exact setFrom_new8 (by rw [List.length_replicate,takN_len]))),fun _ _ FF8 MM8=>?_⟩)
   refine wpl_nil (onN_n ?_)
   refine any_none (by kernel_rfl) (tN ?_)
   exact⟨FF8.pick [0,1],MM8⟩
  ·skip
   refine rp_c 1 FF5 MM4 [(0,c_ (sB (takN 16 (X.drop u))) [(2,oC #[sB X,iN (u+16)] 36)])] 4 [7] [0] (⟨(callU_turn en_rtake (g:=g) (ob:=RB X u) rfl fun w hg=>by have h0:=rtake_any g 16 X u hX (by omega) (by decide) w hg;exact h0),fun _ _ FF9 MM9=>?_⟩)
   refine wpl_nil (onN_n ?_)
   refine any_one (i:=0) (o:=(opAt Tryz.f83 2 0)) (by kernel_rfl) (by kernel_rfl) ?_
   refine rp_c 1 FF9 MM9 [] 8 [] [] (⟨by decide,by decide,by decide,fun _ _ FF10 MM10=>?_⟩)
   refine wpl_nil (onN_n ?_)
   refine any_one (i:=3) (o:=(opAt Tryz.f83 2 3)) (by kernel_rfl) (by kernel_rfl) ?_
   refine rp_c 1 FF10 MM10 [(0,r_ (iN (min (takN 16 (X.drop u)).length 16)) [(0,.cells (cn .u8 (takN 16 (X.drop u))) 94)])] 4 [] [] (⟨(copyStr_ok (p:=.tmp 5) (q:=.tmp 7) (t:=77) (tq:=9) (e:=5) (T:=94) (off:=0) (len:=16) (X:=takN 16 (X.drop u)) (cs:=cn .u8 (List.replicate 16 0)) (i:=0) (by kernel_rfl) rfl rfl (takN_lt (dropX_lt hX u) 16) Tryz.underlying77 (by kernel_rfl) rfl (by rw [cZ,List.length_replicate];decide) (by rw [List.take_of_length_le (by rw [takN_len];decide)];exact setFrom_new8 (by rw [List.length_replicate,takN_len]))),fun _ _ FF11 MM11=>?_⟩)
   refine wpl_nil (onN_n ?_)
   refine any_none (by kernel_rfl) (tN ?_)
   exact⟨FF11.pick [0,1],MM11⟩
 ·rintro ac12 wd12 ⟨FF12,MM12⟩
  refine wp_seq (rg_c FF12 MM12 [(0,b_ 0),(0,b_ 1)] 4 [] [] (⟨rfl,((cZ _ _).trans (takN_len _ _)),rfl,((cZ _ _).trans (List.length_replicate ..)),((cZ _ _).trans (takN_len _ _)),(cn_one _ _),rfl,fun _ _ FF13 MM13=>tN ?_⟩))
  refine wp_ret ?_
  repeat first | refine tR ?_ | refine iR ?_
  exact(retc FF13 MM13 (k:=16) (i:=1) (j:=1) Tryz.results83 rfl rfl Tryz.underlying94 rfl (by kernel_rfl) ((cZ _ _).trans (takN_len _ _)) ⟨rfl,MM13.turn (O:=[]) (fun i x hx=>by simp at hx) 2 rfl (fun x hx=>(nomatch hx))⟩)
theorem popen_nil_yes (K N Z:List Nat)(hK:BytesK 32 K)(hN:BytesK 12 N)(hZ:∀i,Z.getD i 0<256)(hZl:Z.length≤1000000)(ho:opensN K N [] Z)(w0:World) :
  Calls Tryz.prog 62 #[.pointer none,.agg (cn .u8 K),.agg (cn .u8 N),sB Z] w0 fun e w'=>e=.returned (.tuple #[sB (plainN K N Z),.bool true])∧Below w0.heap.size w0 w':=by
 refine eF Tryz.func62 rfl Tryz.ntmps62 (by simp) fun ac (FF:Fr 64 ac [(0,.pointer none),(1,.agg (cn .u8 K)),(2,.agg (cn .u8 N)),(3,sB Z)])=>?_
 have MM:=MemS.start w0
 refine wp_seq (rg_c FF MM [(0,s_ 0 (.cells (cn .u8 K) 52)),(0,s_ 0 (.cells (cn .u8 N) 124)),(0,t_ (sB []))] 9 [9] [1,2] (⟨(by kernel_rfl),fun bk=>⟨(by kernel_rfl),fun bn=>⟨(by kernel_rfl),fun _ _ FF1 MM1=>tN ?_⟩⟩⟩))
 refine wp_seq ?_
 refine wp_seq (rg_c FF1 MM1 [(1,b_ 1),(0,t_ (.bool false))] 10 [17] [] (⟨rfl,((cZ _ _).trans hK.1),(cP en_pshared (pshared_nil K hK) _),fun _ _ FF2 MM2=>tN ?_⟩))
 refine wp_cond_true (FF2.ev 0 rfl) ?_
 refine wp_seq (rg_c FF2 MM2 [(0,b_ 1),(0,b_ 0),(1,t_ (.tuple #[sB (plainN K N Z),.bool true]))] 9 [9] [] (⟨rfl,((cZ _ _).trans hK.1),rfl,((cZ _ _).trans hN.1),(cP en_Open (open_yes K N ⟨hK.1,hK.2⟩ ⟨hN.1,hN.2⟩ [] Z (lit_lt (by kernel_rfl)) hZ (by decide) (by omega) ho.1 ho) _),fun _ _ FF3 MM3=>tN ?_⟩))
 refine wp_ret ?_
 repeat first | refine tR ?_ | refine iR ?_
 exact(ret_tup2 FF3 1 0 Tryz.results62 rfl rfl ⟨rfl,MM3.below⟩)
def OwnI (i:Bool)(ks:Pairs):Prop:=i=false→∀p∈ks,p.2=p.1
theorem ownI_nil (i:Bool):OwnI i []:=fun _ _ h=>(nomatch h)
theorem OwnI.share {i:Bool}{n:Nat}{K:List Nat}{ks:Pairs}(h:OwnI i ks)(Y:List Nat):OwnI i (shareK i n K ks Y):=fun hi p hp=>by
 cases hg:mget K ks with
 | some v=>rw [(share_yes hg Y).1]at hp;exact h hi p hp
 | none=>
  rw [(share_no hg Y).1,List.mem_append]at hp
  rcases hp with hp | hp
  ·exact h hi p hp
  ·rw [List.mem_singleton]at hp
   subst hp
   subst hi
   rfl
theorem OwnI.get {i:Bool}{K:List Nat}{ks:Pairs}(h:OwnI i ks):i=false→∀own,mget K ks=some own→own=K:=fun hi _ hg=>h hi _ (mget_mem hg)
theorem own_real {K:List Nat}{ks:Pairs}(h:OwnI false ks):ownN K ks=K:=by
 unfold ownN
 cases hg:mget K ks with
 | none=>rfl
 | some v=>exact h.get rfl v hg
theorem real_box (K N:List Nat)(ks:Pairs)(X:List Nat):boxN false K N ks X=sealN K N [] X:=if_neg (by simp)
theorem okQ_nil:OkQ []:=⟨fun _ h=>(nomatch h),List.Pairwise.nil⟩
def NewBk (i:Bool)(tp:Option Addr)(w w':World)(v:Value):Prop:=∃b m1 m2 m3:Nat,v=pT b∧Below w.heap.size w w'∧NewAll w.heap.size w' [(b,BB i (.pointer tp) m1 m2 m3 0),(m1,KM []),(m2,KM []),(m3,NM [])]
theorem pnew_E (i:Bool)(tp:Option Addr)(w0:World):Calls Tryz.prog 30 #[.bool i,.pointer tp] w0 fun e w'=>∃v,e=.returned v∧NewBk i tp w0 w' v:=
 (pnew_any i tp w0).mono fun _ _ ⟨b,m1,m2,m3,h1,h2,h3⟩=>⟨_,h1,b,m1,m2,m3,rfl,h2,h3⟩
def NewT (X:List Nat)(w w':World)(v:Value):Prop:=∃g,v=pT g∧Below w.heap.size w w'∧w.heap.size≤g∧w'.heap[g]? = some (TB X 0)
theorem tnew_any (X:List Nat)(w0:World):Calls Tryz.prog 11 #[sB X] w0 fun e w'=>∃v,e=.returned v∧NewT X w0 w' v:=by
 refine eF Tryz.func11 rfl Tryz.ntmps11 (by simp) fun ac (FF:Fr 6 ac [(0,sB X)])=>?_
 have MM:=MemS.start w0
 refine wp_seq (rg_c FF MM [] 3 [] [] (fun _ _ FF1 MM1=>tN ?_))
 refine wp_seq (rg_c FF1 MM1 [(1,t_ (aG #[sB X,iN 0]))] 0 [2] [] (⟨(by kernel_rfl),fun bt=>fun _ _ FF2 MM2=>tN ?_⟩))
 refine wp_ret ?_
 repeat first | refine tR ?_ | refine iR ?_
 exact(ret_fr FF2 0 Tryz.results11 rfl ⟨_,rfl,bt,rfl,MM2.below,MM2.fresh 0 rfl,MM2.get 0 rfl⟩)
end Go.Proofs.YtdokjecjiifciaaGreatDoor
