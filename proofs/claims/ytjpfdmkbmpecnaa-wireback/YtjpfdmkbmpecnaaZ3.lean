/- Several texts in one: The library: strings.Clone, strings.Join. What a variable of several cells and two values answer together; a row's capacity. Rows of texts held against each other; their lengths. Package wire and the document's: sizes, bodies, requests. Package wire and the document's: lists. Package wire and the document's: a list's items. The laws of records: what they share. -/
import Derived.Test.YtjpfdmkbmpecnaaZ2
import Derived.Shelf.Strings.OnBuilder
import Derived.Laws.Small
namespace Go.Proofs.Ytjpfdmkbmpecnaa
open Go.RowKit
theorem en_lclone : Enters Try.prog 33 := fun args w => by simp [go_sem]
theorem en_clone : Enters Try.prog 26 := fun args w => by simp [go_sem]
theorem en_join : Enters Try.prog 32 := fun args w => by simp [go_sem]
theorem en_body : Enters Try.prog 9 := fun args w => by simp [go_sem]
theorem en_text : Enters Try.prog 11 := fun args w => by simp [go_sem]
theorem en_request : Enters Try.prog 13 := fun args w => by simp [go_sem]
theorem en_parts : Enters Try.prog 14 := fun args w => by simp [go_sem]
theorem en_onion : Enters Try.prog 16 := fun args w => by simp [go_sem]
theorem en_reply : Enters Try.prog 18 := fun args w => by simp [go_sem]
theorem en_list : Enters Try.prog 20 := fun args w => by simp [go_sem]
theorem en_items : Enters Try.prog 22 := fun args w => by simp [go_sem]
theorem en_issrv : Enters Try.prog 27 := fun args w => by simp [go_sem]
theorem en_left : Enters Try.prog 28 := fun args w => by simp [go_sem]
theorem en_maysz : Enters Try.prog 29 := fun args w => by simp [go_sem]
theorem en_areof : Enters Try.prog 30 := fun args w => by simp [go_sem]
theorem en_count : Enters Try.prog 31 := fun args w => by simp [go_sem]
theorem en_ktexts : Enters Try.prog 24 := fun args w => by simp [go_sem]
set_option maxRecDepth 100000 in
theorem lclone_any (X : List Nat) (hX : ∀ i, X.getD i 0 < 256) (hl : X.length ≤ 1000000) (w0 : World) :
    Calls Try.prog 33 #[sB X] w0 fun e w' => e = .returned (sB X) ∧ Below w0.heap.size w0 w' := by
  refine enter_fr Try.func33 rfl Try.ntmps33 (by simp) fun ac (FF : Fr 18 ac [(0, sB X)]) => ?_
  have MM := MemS.start w0
  refine wp_seq (rg_seq FF MM [o_] [0, 2] (fun Kt => Kt [(2, sB []), (0, sB X)] []) (by kernel_rfl) (fun _ => by kernel_rfl) (fun ac1 wd1 FF1 MM1 => then_n ?_))
  refine wp_seq ?_
  refine wp_seq (rg_seq FF1 MM1 [o_, t_ (iN X.length), o_] [2, 0, 6] (fun Kt => iN ((bs X).size) = iN X.length ∧ Kt [(6, .bool (decide (X.length = 0))), (2, sB []), (0, sB X)] []) (by kernel_rfl) (fun _ => by kernel_rfl) (⟨(vI (bs_size _)), fun ac2 wd2 FF2 MM2 => then_n ?_⟩))
  by_cases hs6 : X.length = 0
  · refine wp_cond_true ((FF2.ev 0 rfl).trans (dec_t hs6)) ?_
    obtain rfl : X = [] := List.eq_nil_of_length_eq_zero hs6
    refine wp_seq (rg_seq FF2 MM2 [o_] [2, 0] (fun Kt => Kt [(2, sB []), (0, sB [])] []) (by kernel_rfl) (fun _ => by kernel_rfl) (fun ac3 wd3 FF3 MM3 => then_n ?_))
    refine wp_ret ?_
    repeat first | refine then_ret ?_ | refine inb_ret ?_
    exact (ret_fr FF3 0 Try.results33 rfl ⟨rfl, MM3.below⟩)
  · refine wp_cond_false ((FF2.ev 0 rfl).trans (dec_f hs6)) ?_
    refine wp_skip ?_
    refine then_n ?_
    refine wp_seq (rg_seq FF2 MM2 [o_, t_ (iN X.length), n_ (.slice none X.length X.length) (.cells (cn .u8 (List.replicate X.length 0)) 5), o_] [2, 0, 3] (fun Kt => iN ((bs X).size) = iN X.length ∧ RunN Try.prog [(8, iN X.length), (7, sB X), (6, .bool (decide (X.length = 0))), (2, sB []), (0, sB X)] [] (opAt Try.f33 3 2) (mkOf (.slice none X.length X.length)) (.cells (cn .u8 (List.replicate X.length 0)) 5) ∧ ∀ bl, Kt [(3, .slice (some ⟨bl, 0, none⟩) X.length X.length), (2, sB []), (0, sB X)] [(bl, .cells (cn .u8 (List.replicate X.length 0)) 5)]) (by kernel_rfl) (fun _ => by kernel_rfl) (⟨(vI (bs_size _)), (make_ok (t := 40) (e := 5) (p := (.tmp 8)) (q := (.tmp 8)) (by kernel_rfl) rfl rfl Try.underlying40 (by kernel_rfl) (by omega)), fun bl => fun ac4 wd4 FF4 MM4 => then_n ?_⟩))
    refine wp_seq (rg_seq FF4 MM4 [o_, o_, r_ (iN (min X.length X.length)) [(0, .cells (cn .u8 X) 5)]] [3, 2, 0] (fun Kt => RunU Try.prog [(11, sB X), (10, .slice (some ⟨bl, 0, none⟩) X.length X.length), (3, .slice (some ⟨bl, 0, none⟩) X.length X.length), (2, sB []), (0, sB X)] [(bl, .cells (cn .u8 (List.replicate X.length 0)) 5)] (opAt Try.f33 4 2) (iN (min X.length X.length)) [(0, .cells (cn .u8 X) 5)] ∧ Kt [(3, .slice (some ⟨bl, 0, none⟩) X.length X.length), (2, sB []), (0, sB X)] [(bl, .cells (cn .u8 X) 5)]) (by kernel_rfl) (fun _ => by kernel_rfl) (⟨(copyStr_ok (p := .tmp 10) (q := .tmp 11) (t := 40) (tq := 9) (e := 5) (T := 5) (off := 0) (len := X.length) (X := X) (cs := cn .u8 (List.replicate X.length 0)) (i := 0) (by kernel_rfl) rfl rfl hX Try.underlying40 (by kernel_rfl) rfl (by rw [cn_size, List.length_replicate, Nat.zero_add]; exact Nat.le_refl _) (by rw [List.take_length]; exact setFrom_new8 (by rw [List.length_replicate]))), fun ac5 wd5 FF5 MM5 => then_n ?_⟩))
    refine wp_seq (rg_seq FF5 MM5 [o_, w_ 1, o_, o_, r_ (sB X) [(0, .cells (cn .u8 X) 5 (0, X.length))], o_] [3, 2, 0] (fun Kt => 0 < X.length ∧ RunU Try.prog [(16, iN X.length), (15, .slice (some ⟨bl, 0, none⟩) X.length X.length), (14, pT bl), (13, .slice (some ⟨bl, 0, none⟩) X.length X.length), (3, .slice (some ⟨bl, 0, none⟩) X.length X.length), (2, sB []), (0, sB X)] [(bl, .cells (cn .u8 X) 5)] (opAt Try.f33 5 4) (sB X) [(0, .cells (cn .u8 X) 5 (0, X.length))] ∧ Kt [(2, sB X), (3, .slice (some ⟨bl, 0, none⟩) X.length X.length), (0, sB X)] [(bl, .cells (cn .u8 X) 5 (0, X.length))]) (by kernel_rfl) (fun _ => by kernel_rfl) (⟨(by omega), (usRow_ok (t := 71) (u := 3) (e := 5) (i := 0) (x := .tmp 14) (y := .tmp 16) (by kernel_rfl) rfl rfl Try.underlying71 (by kernel_rfl) rfl (by omega) hX (by rw [cn_size]; exact Nat.le_refl _) (by omega) (fun j hj => cn_get _ _ _ hj)), fun ac6 wd6 FF6 MM6 => then_n ?_⟩))
    refine wp_ret ?_
    repeat first | refine then_ret ?_ | refine inb_ret ?_
    exact (ret_fr FF6 0 Try.results33 rfl ⟨rfl, MM6.below⟩)
set_option maxRecDepth 100000 in
theorem clone_any (X : List Nat) (hX : ∀ i, X.getD i 0 < 256) (hl : X.length ≤ 1000000) (w0 : World) :
    Calls Try.prog 26 #[sB X] w0 fun e w' => e = .returned (sB X) ∧ Below w0.heap.size w0 w' := by
  refine enter_fr Try.func26 rfl Try.ntmps26 (by simp) fun ac (FF : Fr 5 ac [(0, sB X)]) => ?_
  have MM := MemS.start w0
  refine wp_seq (rg_seq FF MM [o_] [0, 2] (fun Kt => Kt [(2, sB []), (0, sB X)] []) (by kernel_rfl) (fun _ => by kernel_rfl) (fun ac1 wd1 FF1 MM1 => then_n ?_))
  refine wp_seq (rg_seq FF1 MM1 [o_, t_ (sB X), o_] [2] (fun Kt => CallP Try.prog 33 [sB X] [] (sB X) ∧ Kt [(2, sB X)] []) (by kernel_rfl) (fun _ => by kernel_rfl) (⟨(callP_of en_lclone (lclone_any X hX hl) _), fun ac2 wd2 FF2 MM2 => then_n ?_⟩))
  refine wp_ret ?_
  repeat first | refine then_ret ?_ | refine inb_ret ?_
  exact (ret_fr FF2 0 Try.results26 rfl ⟨rfl, MM2.below⟩)
def renJ : Go.Shelf.Ren := ⟨fun | 156 => 32 | 165 => 34 | 166 => 35 | 169 => 36 | 240 => 37 | 241 => 38 | 276 => 39 | 277 => 40 | n => n, fun | 0 => 0 | 3 => 3 | 4 => 4 | 5 => 5 | 9 => 9 | 20 => 20 | 31 => 26 | 37 => 40 | 70 => 62 | 72 => 64 | 75 => 67 | 76 => 68 | 80 => 70 | 127 => 71 | 164 => 72 | n => n, fun | n => n⟩
theorem layJ : Go.Proofs.Lays.n156 Try.prog renJ := {
  mixed := by kernel_rfl
  f156 := Try.func32.trans (congrArg some (by kernel_rfl))
  f165 := Try.func34.trans (congrArg some (by kernel_rfl))
  f166 := Try.func35.trans (congrArg some (by kernel_rfl))
  f169 := Try.func36.trans (congrArg some (by kernel_rfl))
  f240 := Try.func37.trans (congrArg some (by kernel_rfl))
  f241 := Try.func38.trans (congrArg some (by kernel_rfl))
  f276 := Try.func39.trans (congrArg some (by kernel_rfl))
  f277 := Try.func40.trans (congrArg some (by kernel_rfl))
  t0 := Try.underlying0
  a0 := Try.isAgg0
  z0 := Try.sizeOf0
  v0 := Try.zeroValue0
  t3 := Try.underlying3
  a3 := Try.isAgg3
  z3 := Try.sizeOf3
  v3 := Try.zeroValue3
  t4 := Try.underlying4
  a4 := Try.isAgg4
  z4 := Try.sizeOf4
  v4 := Try.zeroValue4
  t9 := Try.underlying9
  a9 := Try.isAgg9
  z9 := Try.sizeOf9
  v9 := Try.zeroValue9
  t20 := Try.underlying20
  a20 := Try.isAgg20
  z20 := Try.sizeOf20
  v20 := Try.zeroValue20
  t31 := Try.underlying26
  a31 := Try.isAgg26
  z31 := Try.sizeOf26
  v31 := Try.zeroValue26
  t37 := Try.underlying40
  a37 := Try.isAgg40
  z37 := Try.sizeOf40
  v37 := Try.zeroValue40
  t70 := Try.underlying62
  a70 := Try.isAgg62
  z70 := Try.sizeOf62
  v70 := Try.zeroValue62
  t72 := Try.underlying64
  a72 := Try.isAgg64
  z72 := Try.sizeOf64
  v72 := Try.zeroValue64
  t75 := Try.underlying67
  a75 := Try.isAgg67
  z75 := Try.sizeOf67
  v75 := Try.zeroValue67
  t76 := Try.underlying68
  a76 := Try.isAgg68
  z76 := Try.sizeOf68
  v76 := Try.zeroValue68
  t127 := Try.underlying71
  a127 := Try.isAgg71
  z127 := Try.sizeOf71
  v127 := Try.zeroValue71
  t164 := Try.underlying72
  a164 := Try.isAgg72
  z164 := Try.sizeOf72
  v164 := Try.zeroValue72 }
theorem extraJ : Go.Proofs.Builder.Extra Try.prog renJ := {
  sizeBuilder := by kernel_rfl
  liesBuilder := by kernel_rfl
  t5 := Try.underlying5
  a5 := Try.isAgg5
  z5 := Try.sizeOf5
  v5 := Try.zeroValue5
  infoByte := by kernel_rfl
  cellsByte := by kernel_rfl
  sizeByte := by kernel_rfl
  neB5 := by decide }
/-- Texts of a row, one behind the other, as bytes. -/
theorem join_bs (s : Nat → List Nat) : ∀ n : Nat, Go.Lib.join (((List.range n).map fun j => bs (s j)).map (·.data.toList)) (bs []).data.toList = (bs (flatF s n)).data.toList
  | 0 => rfl
  | n + 1 => by
    have h1 := join_bs s n
    have hj : ∀ xs : List (List UInt8), Go.Lib.join xs (bs []).data.toList = xs.flatten := fun xs => by
      show Go.Lib.join xs [] = xs.flatten
      match xs with
      | [] => rfl
      | x :: r => rw [Go.Lib.join_cons]; simp [Go.Lib.joinTail]
    rw [hj] at h1
    rw [hj, flatF_succ, List.range_succ, List.map_append, List.map_append, List.flatten_append, h1]
    simp [bs]
theorem join_w (p : Option Addr) (n c : Nat) (s : Nat → List Nat) (hn : n ≤ 1000000) (hc : n ≤ c) (hl : (flatF s n).length ≤ 1000000) (w : World) (hF : RowIn w p n (fun k9 => sB (s k9))) :
    Calls Try.prog 32 #[.slice p n c, sB []] w fun e w' => e = .returned (sB (flatF s n)) ∧ Below w.heap.size w w' := by
  rcases hF with rfl | ⟨b, off, cs, T, fr, rfl, hblk, hcs⟩
  · refine Calls.mono (Go.Proofs.Any.strings_Join_none layJ extraJ p c (bs []) w) ?_
    rintro e w' ⟨rfl, rfl⟩
    exact ⟨rfl, Below.refl _ _⟩
  · have hlen : ((List.range n).map fun j => bs (s j)).length = n := by simp
    have h0 := Go.Proofs.Any.strings_Join layJ extraJ b off c ((List.range n).map fun j => bs (s j)) (bs []) w (fun j x hx => by
      have hj : j < n := by
        rcases Nat.lt_or_ge j n with h | h
        · exact h
        · rw [List.getElem?_eq_none (by rw [hlen]; exact h)] at hx; cases hx
      rw [cell_of hblk, hcs j hj]
      simp [hj] at hx
      rw [← hx]) (lt_of_block hblk) (by rw [hlen]; omega) (by rw [hlen]; exact hc) (by rw [join_bs, Array.length_toList]; have h9 : (bs (flatF s n)).data.size = (flatF s n).length := bs_size _; omega)
    rw [hlen, join_bs] at h0
    exact h0
end Go.Proofs.Ytjpfdmkbmpecnaa
namespace Go.Proofs.Ytjpfdmkbmpecnaa
open Go.RowKit
section
variable {P : Program} {n : Nat} {a : Act} {w0 w : World} {l : Slots} {L : Blks} {S : Nat → Prop} {R : List Row}
theorem ret_ctt {fn : Func} {R' : Ending → World → Prop} {t b k i j u m u2 m2 : Nat} {ty T : TypeId} {cs : Array Value} {dd : TypeDesc} {y z : Value} (F : Fr n a l) (M : MemS S w0 w L R) (hf : fn.results = #[.cell t ty, .tmp u, .tmp u2]) (ht : l[j]? = some (t, .pointer (some ⟨b, 0, none⟩))) (hb : L[i]? = some (b, .cells cs T)) (hy : l[m]? = some (u, y)) (hz : l[m2]? = some (u2, z))
    (hu : P.underlying ty = some dd) (hdd : dd.isRow = true) (hi : (P.info? ty).map (·.size) = some k) (hk : cs.size = k) (hR : R' (.returned (.tuple #[.agg cs, y, z])) w) : bodyPost P fn R' .ret a w := by
  refine bodyPost_ret (v := .tuple #[.agg cs, y, z]) ?_ F.defers hR
  have hb' := M.get i hb
  have ha := F.get j ht
  have hy' := F.get m hy
  have hz' := F.get m2 hz
  have hl := run_loadVar_mid (P := P) w b 0 ty cs.toList dd (fun j v hv => by rw [Nat.zero_add, cell_of hb']; simpa using hv) hu hdd (by rw [hi]; simp [hk])
  simp [results, hf, ha, hl, asAddr, hy', hz']
theorem MemS.rowCap {q : Option Addr} {m c : Nat} {e : TypeId} {X : List Value} (M : MemS S w0 w L ((.slice q m c, e, 1, m, X) :: R)) : m ≤ c := by
  have hown : w.ownsRow w0.heap.size e 1 (.slice q m c) m X := M.rows _ (List.mem_cons_self ..)
  rcases hown.2 with ⟨h1, h2⟩ | ⟨g', cap, cur, h1, _, _, h2, _⟩
  · omega
  · simp only [Value.slice.injEq] at h1; omega
end
end Go.Proofs.Ytjpfdmkbmpecnaa
namespace Go.Proofs.Ytjpfdmkbmpecnaa
open Go.RowKit
set_option maxRecDepth 100000 in
theorem ktexts_O (O : Blks) (hD : Distinct O) (p : Option Addr) (n c : Nat) (q : Option Addr) (d : Nat) (s r : Nat → List Nat) (hn : n ≤ 1000000) (hE : ∀ i, i < n → s i = r i) (hF : RowO O p n (fun k9 => sB (s k9))) (hG : RowO O q n (fun k9 => sB (r k9))) (w0 : World) (H : Has w0 O) :
    Calls Try.prog 24 #[.slice p n c, .slice q n d] w0 fun e w' => e = .returned (.bool true) ∧ Below w0.heap.size w0 w' := by
  refine enter_fr Try.func24 rfl Try.ntmps24 (by simp) fun ac (FF : Fr 26 ac [(0, .slice p n c), (1, .slice q n d)]) => ?_
  have MM : MemS (fun k => k < w0.heap.size ∧ ∀ x ∈ O, x.1 ≠ k) w0 w0 O [] := MemS.startN H hD
  refine wp_seq (rg_seq FF MM [o_] [0, 1, 4] (fun Kt => Kt [(4, .bool false), (0, .slice p n c), (1, .slice q n d)] O) (by kernel_rfl) (fun _ => by kernel_rfl) (fun ac1 wd1 FF1 MM1 => then_n ?_))
  refine wp_seq ?_
  refine wp_seq (rg_seq FF1 MM1 [o_, o_, o_, o_, w_ 3] [4, 0, 1, 10] (fun Kt => ¬ (n ≠ n) ∧ Kt [(10, .bool false), (4, .bool false), (0, .slice p n c), (1, .slice q n d)] O) (by kernel_rfl) (fun _ => by kernel_rfl) (⟨(fun h => h rfl), fun ac2 wd2 FF2 MM2 => then_n ?_⟩))
  refine wp_cond_false (FF2.ev 0 rfl) ?_
  refine wp_skip ?_
  refine then_n ?_
  refine wp_seq ?_
  refine wp_seq (rg_seq FF2 MM2 [o_] [4, 0, 1, 5] (fun Kt => Kt [(5, iN 0), (4, .bool false), (0, .slice p n c), (1, .slice q n d)] O) (by kernel_rfl) (fun _ => by kernel_rfl) (fun ac3 wd3 FF3 MM3 => then_n ?_))
  refine wp_for2 (fun a' w' => ∃ i : Nat, i ≤ n ∧ Fr 26 a' [(5, iN i), (0, .slice p n c), (1, .slice q n d)] ∧ MemS (fun k => k < w0.heap.size ∧ ∀ x ∈ O, x.1 ≠ k) w0 w' O []) (fun a' _ => (n - cnt 5 a').toNat) ⟨0, Nat.zero_le _, FF3.pick [0, 2, 3], MM3⟩ ?_
  rintro ac4 wd4 ⟨i, hi, FF4, MM4⟩
  have hc := cnt_of (FF4.get 0 rfl)
  refine rg_seq FF4 MM4 [o_, o_, o_, o_] [5, 0, 1, 14] (fun Kt => Kt [(14, .bool (decide (i < n))), (5, iN i), (0, .slice p n c), (1, .slice q n d)] O) (by kernel_rfl) (fun _ => by kernel_rfl) (fun ac5 wd5 FF5 MM5 => ?_)
  by_cases hlt : i < n
  · skip
    refine then_n (.inl ⟨(FF5.ev 0 rfl).trans (dec_t hlt), ?_⟩)
    refine wp_seq (rg_draw FF5 MM5 [.inl (.slice p n c), .inl (iN i), .inl (.pointer (some ⟨gOf p, oOf p + i, none⟩)), .inl (sB (s i)), .inl (.slice q n d), .inl (iN i), .inl (.pointer (some ⟨gOf q, oOf q + i, none⟩)), .inl (sB (r i)), .inl (.bool false)] [] [o_, o_, f_ (.pointer (some ⟨gOf p, oOf p + i, none⟩)), f_ (sB (s i)), o_, o_, f_ (.pointer (some ⟨gOf q, oOf q + i, none⟩)), f_ (sB (r i)), w_ 3] [] [5, 0, 1, 25] (fun nb => [RunV Try.prog [(17, .slice p n c), (18, iN i), (14, .bool (decide (i < n))), (5, iN i), (0, .slice p n c), (1, .slice q n d)] O (opAt Try.f24 6 2) (.pointer (some ⟨gOf p, oOf p + i, none⟩)), RunV Try.prog [(19, .pointer (some ⟨gOf p, oOf p + i, none⟩)), (14, .bool (decide (i < n))), (5, iN i), (0, .slice p n c), (1, .slice q n d)] O (opAt Try.f24 6 3) (sB (s i)), RunV Try.prog [(21, .slice q n d), (22, iN i), (14, .bool (decide (i < n))), (5, iN i), (0, .slice p n c), (1, .slice q n d)] O (opAt Try.f24 6 6) (.pointer (some ⟨gOf q, oOf q + i, none⟩)), RunV Try.prog [(23, .pointer (some ⟨gOf q, oOf q + i, none⟩)), (14, .bool (decide (i < n))), (5, iN i), (0, .slice p n c), (1, .slice q n d)] O (opAt Try.f24 6 7) (sB (r i)), ¬ (bs (s i) ≠ bs (r i))]) (fun nb Kt => Kt [(25, .bool false), (5, iN i), (0, .slice p n c), (1, .slice q n d)] O) (by kernel_rfl) (by kernel_rfl) (by kernel_rfl) (fun _ => by kernel_rfl) (fun _ _ => by kernel_rfl) trivial (fun nb => ⟨(rowX_addr (x := (.tmp 17)) (y := (.tmp 18)) (k := 1) (i := i) (by kernel_rfl) rfl rfl Try.underlying26 (by kernel_rfl) hF (by omega) (by omega)), (rowX_load (x := (.tmp 19)) (j := i) (by kernel_rfl) rfl Try.underlying9 rfl hF (fun _ hx => hx) (by omega) rfl), (rowX_addr (x := (.tmp 21)) (y := (.tmp 22)) (k := 1) (i := i) (by kernel_rfl) rfl rfl Try.underlying26 (by kernel_rfl) hG (by omega) (by omega)), (rowX_load (x := (.tmp 23)) (j := i) (by kernel_rfl) rfl Try.underlying9 rfl hG (fun _ hx => hx) (by omega) rfl), (fun h => h (congrArg bs (hE i hlt))), trivial⟩) (fun nb => fun ac6 wd6 FF6 MM6 => then_n ?_))
    refine wp_cond_false (FF6.ev 0 rfl) ?_
    refine wp_skip ?_
    refine inb_n (then_n ?_)
    refine rg_seq FF6 MM6 [o_, o_, o_] [5, 0, 1] (fun Kt => i + 1 < 9223372036854775808 ∧ Kt [(5, iN (i + 1)), (0, .slice p n c), (1, .slice q n d)] O) (by kernel_rfl) (fun _ => by kernel_rfl) (⟨(by omega), fun ac7 wd7 FF7 MM7 => ?_⟩)
    have hd := cnt_of (FF7.get 0 rfl)
    refine then_n ⟨⟨i + 1, by omega, FF7.pick [0, 1, 2], MM7⟩, ?_⟩
    rw [hc, hd]; omega
  · skip
    refine then_n (.inr ⟨(FF5.ev 0 rfl).trans (dec_f hlt), ?_⟩)
    refine then_n ?_
    refine wp_seq (rg_seq FF5 MM5 [o_] [5, 0, 1, 4] (fun Kt => Kt [(4, .bool true), (5, iN i), (0, .slice p n c), (1, .slice q n d)] O) (by kernel_rfl) (fun _ => by kernel_rfl) (fun ac8 wd8 FF8 MM8 => then_n ?_))
    refine wp_ret ?_
    repeat first | refine then_ret ?_ | refine inb_ret ?_
    exact (ret_fr FF8 0 Try.results24 rfl ⟨rfl, MM8.belowN H (fun _ hx => hx)⟩)
theorem ktexts_w (p : Option Addr) (n c : Nat) (q : Option Addr) (d : Nat) (s r : Nat → List Nat) (hn : n ≤ 1000000) (hE : ∀ i, i < n → s i = r i) (w : World) (hF : RowIn w p n (fun k9 => sB (s k9))) (hG : RowIn w q n (fun k9 => sB (r k9))) :
    Calls Try.prog 24 #[.slice p n c, .slice q n d] w fun e w' => e = .returned (.bool true) ∧ Below w.heap.size w w' := by
  obtain ⟨O, h1, h2, h3, h4⟩ := row_O2 hF hG
  exact ktexts_O O h2 p n c q d s r hn hE h3 h4 w h1
end Go.Proofs.Ytjpfdmkbmpecnaa
namespace Go.Proofs.Ytjpfdmkbmpecnaa
open Go.RowKit
set_option maxRecDepth 100000 in
theorem issrv_yes (k : Nat) (h1 : k ≥ 1) (h2 : k ≤ 3) (w0 : World) :
    Calls Try.prog 27 #[iN k] w0 fun e w' => e = .returned (.bool true) ∧ Below w0.heap.size w0 w' := by
  refine enter_fr Try.func27 rfl Try.ntmps27 (by simp) fun ac (FF : Fr 9 ac [(0, iN k)]) => ?_
  have MM := MemS.start w0
  refine wp_seq (rg_seq FF MM [o_] [0, 2] (fun Kt => Kt [(2, .bool false), (0, iN k)] []) (by kernel_rfl) (fun _ => by kernel_rfl) (fun ac1 wd1 FF1 MM1 => then_n ?_))
  refine wp_seq (rg_seq FF1 MM1 [o_, w_ 2, o_, o_, w_ 2, o_, o_] [2] (fun Kt => k ≥ 1 ∧ k ≤ 3 ∧ Kt [(2, .bool true)] []) (by kernel_rfl) (fun _ => by kernel_rfl) (⟨h1, h2, fun ac2 wd2 FF2 MM2 => then_n ?_⟩))
  refine wp_ret ?_
  repeat first | refine then_ret ?_ | refine inb_ret ?_
  exact (ret_fr FF2 0 Try.results27 rfl ⟨rfl, MM2.below⟩)
set_option maxRecDepth 100000 in
theorem maysz_yes (k : Nat) (h1 : k ≥ 1) (h2 : k ≤ 256) (w0 : World) :
    Calls Try.prog 29 #[iN k] w0 fun e w' => e = .returned (.bool true) ∧ Below w0.heap.size w0 w' := by
  refine enter_fr Try.func29 rfl Try.ntmps29 (by simp) fun ac (FF : Fr 9 ac [(0, iN k)]) => ?_
  have MM := MemS.start w0
  refine wp_seq (rg_seq FF MM [o_] [0, 2] (fun Kt => Kt [(2, .bool false), (0, iN k)] []) (by kernel_rfl) (fun _ => by kernel_rfl) (fun ac1 wd1 FF1 MM1 => then_n ?_))
  refine wp_seq (rg_seq FF1 MM1 [o_, w_ 2, o_, o_, w_ 2, o_, o_] [2] (fun Kt => k ≥ 1 ∧ k ≤ 256 ∧ Kt [(2, .bool true)] []) (by kernel_rfl) (fun _ => by kernel_rfl) (⟨h1, h2, fun ac2 wd2 FF2 MM2 => then_n ?_⟩))
  refine wp_ret ?_
  repeat first | refine then_ret ?_ | refine inb_ret ?_
  exact (ret_fr FF2 0 Try.results29 rfl ⟨rfl, MM2.below⟩)
set_option maxRecDepth 100000 in
theorem maysz_lo (z : Int) (hz : z < 1) (w0 : World) :
    Calls Try.prog 29 #[.int .i64 z] w0 fun e w' => e = .returned (.bool false) ∧ Below w0.heap.size w0 w' := by
  refine enter_fr Try.func29 rfl Try.ntmps29 (by simp) fun ac (FF : Fr 9 ac [(0, .int .i64 (z : Int))]) => ?_
  have MM := MemS.start w0
  refine wp_seq (rg_seq FF MM [o_] [0, 2] (fun Kt => Kt [(2, .bool false), (0, .int .i64 (z : Int))] []) (by kernel_rfl) (fun _ => by kernel_rfl) (fun ac1 wd1 FF1 MM1 => then_n ?_))
  refine wp_seq (rg_seq FF1 MM1 [o_, u_ 4 (.bool false), o_, o_, o_, o_, o_] [2] (fun Kt => Value.bool (decide (z ≥ ((1 : Nat) : Int))) = .bool false ∧ Kt [(2, .bool false)] []) (by kernel_rfl) (fun _ => by kernel_rfl) (⟨(dec_f (by omega)), fun ac2 wd2 FF2 MM2 => then_n ?_⟩))
  refine wp_ret ?_
  repeat first | refine then_ret ?_ | refine inb_ret ?_
  exact (ret_fr FF2 0 Try.results29 rfl ⟨rfl, MM2.below⟩)
set_option maxRecDepth 100000 in
theorem maysz_hi (z : Int) (hz : z > 256) (w0 : World) :
    Calls Try.prog 29 #[.int .i64 z] w0 fun e w' => e = .returned (.bool false) ∧ Below w0.heap.size w0 w' := by
  refine enter_fr Try.func29 rfl Try.ntmps29 (by simp) fun ac (FF : Fr 9 ac [(0, .int .i64 (z : Int))]) => ?_
  have MM := MemS.start w0
  refine wp_seq (rg_seq FF MM [o_] [0, 2] (fun Kt => Kt [(2, .bool false), (0, .int .i64 (z : Int))] []) (by kernel_rfl) (fun _ => by kernel_rfl) (fun ac1 wd1 FF1 MM1 => then_n ?_))
  refine wp_seq (rg_seq FF1 MM1 [o_, w_ 6, o_, o_, u_ 4 (.bool false), o_, o_] [2] (fun Kt => z ≥ ((1 : Nat) : Int) ∧ Value.bool (decide (z ≤ ((256 : Nat) : Int))) = .bool false ∧ Kt [(2, .bool false)] []) (by kernel_rfl) (fun _ => by kernel_rfl) (⟨(by omega), (dec_f (by omega)), fun ac2 wd2 FF2 MM2 => then_n ?_⟩))
  refine wp_ret ?_
  repeat first | refine then_ret ?_ | refine inb_ret ?_
  exact (ret_fr FF2 0 Try.results29 rfl ⟨rfl, MM2.below⟩)
theorem maysz_no (z : Int) (hz : z < 1 ∨ z > 256) (w : World) : Calls Try.prog 29 #[.int .i64 z] w fun e w' => e = .returned (.bool false) ∧ Below w.heap.size w w' := by
  by_cases h : z < 1
  · exact maysz_lo z h w
  · exact maysz_hi z (by omega) w
set_option maxRecDepth 100000 in
theorem left_any (k : Nat) (hk : k ≤ 3) (w0 : World) :
    Calls Try.prog 28 #[iN k] w0 fun e w' => e = .returned (iN (4 - k)) ∧ Below w0.heap.size w0 w' := by
  refine enter_fr Try.func28 rfl Try.ntmps28 (by simp) fun ac (FF : Fr 5 ac [(0, iN k)]) => ?_
  have MM := MemS.start w0
  refine wp_seq (rg_seq FF MM [o_] [0, 2] (fun Kt => Kt [(2, iN 0), (0, iN k)] []) (by kernel_rfl) (fun _ => by kernel_rfl) (fun ac1 wd1 FF1 MM1 => then_n ?_))
  refine wp_seq (rg_seq FF1 MM1 [o_, o_, o_] [2] (fun Kt => k ≤ 4 ∧ 4 - k < 9223372036854775808 ∧ Kt [(2, iN (4 - k))] []) (by kernel_rfl) (fun _ => by kernel_rfl) (⟨(by omega), (by omega), fun ac2 wd2 FF2 MM2 => then_n ?_⟩))
  refine wp_ret ?_
  repeat first | refine then_ret ?_ | refine inb_ret ?_
  exact (ret_fr FF2 0 Try.results28 rfl ⟨rfl, MM2.below⟩)
set_option maxRecDepth 100000 in
theorem onion_1  (w0 : World) :
    Calls Try.prog 16 #[iN 1] w0 fun e w' => e = .returned (iN 196) ∧ Below w0.heap.size w0 w' := by
  refine enter_fr Try.func16 rfl Try.ntmps16 (by simp) fun ac (FF : Fr 10 ac [(0, iN 1)]) => ?_
  have MM := MemS.start w0
  refine wp_seq (rg_seq FF MM [o_] [0, 2] (fun Kt => Kt [(2, iN 0), (0, iN 1)] []) (by kernel_rfl) (fun _ => by kernel_rfl) (fun ac1 wd1 FF1 MM1 => then_n ?_))
  refine wp_seq ?_
  refine wp_seq (rg_seq FF1 MM1 [o_, t_ (.bool true), o_] [2, 0, 5] (fun Kt => CallP Try.prog 27 [iN 1] [] (.bool true) ∧ Kt [(5, .bool false), (2, iN 0), (0, iN 1)] []) (by kernel_rfl) (fun _ => by kernel_rfl) (⟨(callP_of en_issrv (issrv_yes 1 (by omega) (by omega)) _), fun ac2 wd2 FF2 MM2 => then_n ?_⟩))
  refine wp_cond_false (FF2.ev 0 rfl) ?_
  refine wp_skip ?_
  refine then_n ?_
  refine wp_seq (rg_seq FF2 MM2 [o_, t_ (iN 3), o_, o_, o_] [2, 0] (fun Kt => CallP Try.prog 28 [iN 1] [] (iN 3) ∧ 3 * 48 < 9223372036854775808 ∧ 52 + 144 < 9223372036854775808 ∧ Kt [(2, iN 196), (0, iN 1)] []) (by kernel_rfl) (fun _ => by kernel_rfl) (⟨(callP_of en_left (left_any 1 (by decide)) _), (by decide), (by decide), fun ac3 wd3 FF3 MM3 => then_n ?_⟩))
  refine wp_ret ?_
  repeat first | refine then_ret ?_ | refine inb_ret ?_
  exact (ret_fr FF3 0 Try.results16 rfl ⟨rfl, MM3.below⟩)
set_option maxRecDepth 100000 in
theorem reply_3  (w0 : World) :
    Calls Try.prog 18 #[iN 3] w0 fun e w' => e = .returned (iN 52) ∧ Below w0.heap.size w0 w' := by
  refine enter_fr Try.func18 rfl Try.ntmps18 (by simp) fun ac (FF : Fr 10 ac [(0, iN 3)]) => ?_
  have MM := MemS.start w0
  refine wp_seq (rg_seq FF MM [o_] [0, 2] (fun Kt => Kt [(2, iN 0), (0, iN 3)] []) (by kernel_rfl) (fun _ => by kernel_rfl) (fun ac1 wd1 FF1 MM1 => then_n ?_))
  refine wp_seq ?_
  refine wp_seq (rg_seq FF1 MM1 [o_, t_ (.bool true), o_] [2, 0, 5] (fun Kt => CallP Try.prog 27 [iN 3] [] (.bool true) ∧ Kt [(5, .bool false), (2, iN 0), (0, iN 3)] []) (by kernel_rfl) (fun _ => by kernel_rfl) (⟨(callP_of en_issrv (issrv_yes 3 (by omega) (by omega)) _), fun ac2 wd2 FF2 MM2 => then_n ?_⟩))
  refine wp_cond_false (FF2.ev 0 rfl) ?_
  refine wp_skip ?_
  refine then_n ?_
  refine wp_seq (rg_seq FF2 MM2 [o_, t_ (iN 1), o_, o_, o_] [2, 0] (fun Kt => CallP Try.prog 28 [iN 3] [] (iN 1) ∧ 1 * 16 < 9223372036854775808 ∧ 36 + 16 < 9223372036854775808 ∧ Kt [(2, iN 52), (0, iN 3)] []) (by kernel_rfl) (fun _ => by kernel_rfl) (⟨(callP_of en_left (left_any 3 (by decide)) _), (by decide), (by decide), fun ac3 wd3 FF3 MM3 => then_n ?_⟩))
  refine wp_ret ?_
  repeat first | refine then_ret ?_ | refine inb_ret ?_
  exact (ret_fr FF3 0 Try.results18 rfl ⟨rfl, MM3.below⟩)
set_option maxRecDepth 100000 in
theorem body_any (X : List Nat) (hX : ∀ i, X.getD i 0 < 256) (w0 : World) :
    Calls Try.prog 9 #[sB X] w0 fun e w' => e = .returned (.tuple #[.string (bs (bodyR X).1), iN ((bodyR X).2)]) ∧ Below w0.heap.size w0 w' := by
  refine enter_fr Try.func9 rfl Try.ntmps9 (by simp) fun ac (FF : Fr 17 ac [(0, sB X)]) => ?_
  have MM := MemS.start w0
  refine wp_seq (rg_seq FF MM [o_, o_] [0, 2, 3] (fun Kt => Kt [(3, iN 0), (2, sB []), (0, sB X)] []) (by kernel_rfl) (fun _ => by kernel_rfl) (fun ac1 wd1 FF1 MM1 => then_n ?_))
  refine wp_seq ?_
  refine wp_seq (rg_seq FF1 MM1 [o_, t_ (iN X.length), o_] [3, 2, 0, 7] (fun Kt => iN ((bs X).size) = iN X.length ∧ Kt [(7, .bool (decide (X.length > 19))), (3, iN 0), (2, sB []), (0, sB X)] []) (by kernel_rfl) (fun _ => by kernel_rfl) (⟨(vI (bs_size _)), fun ac2 wd2 FF2 MM2 => then_n ?_⟩))
  by_cases hs7 : X.length > 19
  · refine wp_cond_true ((FF2.ev 0 rfl).trans (dec_t hs7)) ?_
    refine wp_seq (rg_seq FF2 MM2 [o_, o_] [3, 2, 0] (fun Kt => Kt [(3, iN 4), (2, sB []), (0, sB X)] []) (by kernel_rfl) (fun _ => by kernel_rfl) (fun ac3 wd3 FF3 MM3 => then_n ?_))
    refine wp_ret ?_
    repeat first | refine then_ret ?_ | refine inb_ret ?_
    exact (ret_tup2 FF3 1 0 Try.results9 rfl rfl ⟨by rw [bodyR_no hs7], MM3.below⟩)
  · refine wp_cond_false ((FF2.ev 0 rfl).trans (dec_f hs7)) ?_
    have h19 : X.length ≤ 19 := by omega
    refine wp_skip ?_
    refine then_n ?_
    refine wp_seq (rg_seq FF2 MM2 [o_] [3, 2, 0, 4] (fun Kt => ∀ bl, Kt [(4, pT bl), (3, iN 0), (2, sB []), (0, sB X)] [(bl, .cells (cn .u8 (List.replicate 20 0)) 55)]) (by kernel_rfl) (fun _ => by kernel_rfl) (fun bl => fun ac4 wd4 FF4 MM4 => then_n ?_))
    refine wp_seq (rg_seq FF4 MM4 [o_, t_ (iN X.length), t_ (iB X.length), w_ 1, s_ 0 (.cells (cn .u8 ((List.replicate 20 0).set 0 X.length)) 55)] [4, 3, 2, 0] (fun Kt => iN ((bs X).size) = iN X.length ∧ iB (X.length % 256) = iB X.length ∧ 0 < 20 ∧ bl = bl ∧ 0 < (cn .u8 (List.replicate 20 0)).size ∧ (((0, 0)).2 = 0 ∨ 0 < ((0, 0)).1) ∧ (cn .u8 (List.replicate 20 0)).setIfInBounds 0 (iB X.length) = cn .u8 ((List.replicate 20 0).set 0 X.length) ∧ Kt [(4, pT bl), (3, iN 0), (2, sB []), (0, sB X)] [(bl, .cells (cn .u8 ((List.replicate 20 0).set 0 X.length)) 55)]) (by kernel_rfl) (fun _ => by kernel_rfl) (⟨(vI (bs_size _)), (vI (Nat.mod_eq_of_lt (by omega))), (by decide), rfl, (by rw [cn_size, (List.length_replicate ..)]; decide), (.inl rfl), (cn_set _ _ _ _), fun ac5 wd5 FF5 MM5 => then_n ?_⟩))
    refine wp_seq (rg_seq FF5 MM5 [o_, o_, r_ (iN (min X.length 19)) [(0, .cells (cn .u8 (bodyN X)) 55)]] [4, 3, 2, 0] (fun Kt => 1 ≤ 20 ∧ 20 ≤ 20 ∧ 1 < 20 ∧ RunU Try.prog [(13, sB X), (12, .slice (some ⟨bl, 1, none⟩) 19 19), (4, pT bl), (3, iN 0), (2, sB []), (0, sB X)] [(bl, .cells (cn .u8 ((List.replicate 20 0).set 0 X.length)) 55)] (opAt Try.f9 5 2) (iN (min X.length 19)) [(0, .cells (cn .u8 (bodyN X)) 55)] ∧ Kt [(4, pT bl), (3, iN 0), (2, sB []), (0, sB X)] [(bl, .cells (cn .u8 (bodyN X)) 55)]) (by kernel_rfl) (fun _ => by kernel_rfl) (⟨(by decide), (by decide), (by decide), (copyStr_ok (p := .tmp 12) (q := .tmp 13) (t := 40) (tq := 9) (e := 5) (T := 55) (off := 1) (len := 19) (X := X) (cs := cn .u8 ((List.replicate 20 0).set 0 X.length)) (i := 0) (by kernel_rfl) rfl rfl hX Try.underlying40 (by kernel_rfl) rfl (by rw [cn_size, List.length_set, List.length_replicate]; decide) (body_cells h19)), fun ac6 wd6 FF6 MM6 => then_n ?_⟩))
    refine wp_seq (rg_seq FF6 MM6 [o_, l_ 0 (sB (bodyN X)), o_, o_] [4, 3, 2, 0] (fun Kt => 0 ≤ 20 ∧ 20 ≤ 20 ∧ 0 < 20 ∧ bl = bl ∧ StrAt (cn .u8 (bodyN X)) 0 20 (bs (bodyN X)) ∧ Kt [(3, iN 0), (2, sB (bodyN X)), (4, pT bl), (0, sB X)] [(bl, .cells (cn .u8 (bodyN X)) 55)]) (by kernel_rfl) (fun _ => by kernel_rfl) (⟨(by decide), (by decide), (by decide), rfl, (str_all (bodyN_len h19) (bodyN_lt hX h19)), fun ac7 wd7 FF7 MM7 => then_n ?_⟩))
    refine wp_ret ?_
    repeat first | refine then_ret ?_ | refine inb_ret ?_
    exact (ret_tup2 FF7 1 0 Try.results9 rfl rfl ⟨by rw [bodyR_ok h19], MM7.below⟩)
set_option maxRecDepth 100000 in
theorem text_any (B : List Nat) (hB : ∀ i, B.getD i 0 < 256) (w0 : World) :
    Calls Try.prog 11 #[sB B] w0 fun e w' => e = .returned (.tuple #[.string (bs (textR B).1), .bool (textR B).2]) ∧ Below w0.heap.size w0 w' := by
  refine enter_fr Try.func11 rfl Try.ntmps11 (by simp) fun ac (FF : Fr 32 ac [(0, sB B)]) => ?_
  have MM := MemS.start w0
  refine wp_seq (rg_seq FF MM [o_, o_] [0, 2, 3] (fun Kt => Kt [(3, .bool false), (2, sB []), (0, sB B)] []) (by kernel_rfl) (fun _ => by kernel_rfl) (fun ac1 wd1 FF1 MM1 => then_n ?_))
  refine wp_seq ?_
  by_cases h20 : B.length = 20
  · by_cases h0 : B.getD 0 0 ≤ 19
    · skip
      refine wp_seq (rg_seq FF1 MM1 [o_, t_ (iN B.length), w_ 3, o_, o_, t_ (iB (B.getD 0 0)), w_ 1, w_ 3, o_] [3, 2, 0, 15] (fun Kt => iN ((bs B).size) = iN B.length ∧ ¬ (B.length ≠ 20) ∧ 0 < (bs B).size ∧ (nl (bs B)).getD 0 0 = B.getD 0 0 ∧ (B.getD 0 0) < 9223372036854775808 ∧ ¬ ((B.getD 0 0) > 19) ∧ Kt [(15, .bool false), (3, .bool false), (2, sB []), (0, sB B)] []) (by kernel_rfl) (fun _ => by kernel_rfl) (⟨(vI (bs_size _)), (fun h => h h20), (by simp only [bs_size]; omega), (byte_bs hB _), (by have := hB 0; omega), (by omega), fun ac2 wd2 FF2 MM2 => then_n ?_⟩))
      refine wp_cond_false (FF2.ev 0 rfl) ?_
      refine wp_skip ?_
      refine then_n ?_
      have htl := textN_len h20 h0
      refine wp_seq (rg_seq FF2 MM2 [o_, o_, t_ (iB (B.getD 0 0)), w_ 1, o_, t_ (sB (textN B)), t_ (sB (textN B)), o_] [3, 2, 0, 4] (fun Kt => 0 < (bs B).size ∧ (nl (bs B)).getD 0 0 = B.getD 0 0 ∧ (B.getD 0 0) < 9223372036854775808 ∧ 1 + (B.getD 0 0) < 9223372036854775808 ∧ 1 ≤ (1 + (B.getD 0 0)) ∧ (1 + (B.getD 0 0)) ≤ (bs B).size ∧ Value.string ((bs B).extract 1 (1 + (B.getD 0 0))) = sB (textN B) ∧ CallP Try.prog 26 [sB (textN B)] [] (sB (textN B)) ∧ Kt [(4, sB (textN B)), (3, .bool false), (2, sB []), (0, sB B)] []) (by kernel_rfl) (fun _ => by kernel_rfl) (⟨(by simp only [bs_size]; omega), (byte_bs hB _), (by have := hB 0; omega), (by have := hB 0; omega), (by have := hB 0; omega), (by simp only [bs_size]; have := hB 0; omega), (vS2 (bs_extract _ _ _)), (callP_of en_clone (clone_any (textN B) (textN_lt hB) (by omega)) _), fun ac3 wd3 FF3 MM3 => then_n ?_⟩))
      refine wp_seq ?_
      refine wp_seq (rg_seq FF3 MM3 [o_, t_ (.tuple #[sB (bodyN (textN B)), iN 0]), o_, o_, o_, o_, o_] [4, 3, 2, 0, 5] (fun Kt => CallP Try.prog 9 [sB (textN B)] [] (.tuple #[sB (bodyN (textN B)), iN 0]) ∧ Kt [(5, sB (bodyN (textN B))), (4, sB (textN B)), (3, .bool false), (2, sB []), (0, sB B)] []) (by kernel_rfl) (fun _ => by kernel_rfl) (⟨(callP_of en_body (fun w => by have h0 := body_any (textN B) (textN_lt hB) w; rw [bodyR_ok (by omega)] at h0; exact h0) _), fun ac4 wd4 FF4 MM4 => then_n ?_⟩))
      by_cases he : bodyN (textN B) = B
      · skip
        refine wp_seq (rg_seq FF4 MM4 [o_, o_, w_ 3] [4, 3, 2, 0, 30] (fun Kt => ¬ (bs (bodyN (textN B)) ≠ bs B) ∧ Kt [(30, .bool false), (4, sB (textN B)), (3, .bool false), (2, sB []), (0, sB B)] []) (by kernel_rfl) (fun _ => by kernel_rfl) (⟨(fun h => h (congrArg bs he)), fun ac5 wd5 FF5 MM5 => then_n ?_⟩))
        refine wp_cond_false (FF5.ev 0 rfl) ?_
        refine wp_skip ?_
        refine then_n ?_
        refine wp_seq (rg_seq FF5 MM5 [o_, o_, o_] [4, 3, 2, 0] (fun Kt => Kt [(3, .bool true), (2, sB (textN B)), (4, sB (textN B)), (0, sB B)] []) (by kernel_rfl) (fun _ => by kernel_rfl) (fun ac6 wd6 FF6 MM6 => then_n ?_))
        refine wp_ret ?_
        repeat first | refine then_ret ?_ | refine inb_ret ?_
        exact (ret_tup2 FF6 1 0 Try.results11 rfl rfl ⟨by rw [textR_ok h20 h0 he], MM6.below⟩)
      · skip
        refine wp_seq (rg_seq FF4 MM4 [o_, o_, w_ 2] [4, 3, 2, 0, 30] (fun Kt => bs (bodyN (textN B)) ≠ bs B ∧ Kt [(30, .bool true), (4, sB (textN B)), (3, .bool false), (2, sB []), (0, sB B)] []) (by kernel_rfl) (fun _ => by kernel_rfl) (⟨(fun h => he (bs_inj (bodyN_lt (textN_lt hB) (by omega)) hB h)), fun ac7 wd7 FF7 MM7 => then_n ?_⟩))
        refine wp_cond_true (FF7.ev 0 rfl) ?_
        refine wp_seq (rg_seq FF7 MM7 [o_, o_] [4, 3, 2, 0] (fun Kt => Kt [(3, .bool false), (2, sB []), (4, sB (textN B)), (0, sB B)] []) (by kernel_rfl) (fun _ => by kernel_rfl) (fun ac8 wd8 FF8 MM8 => then_n ?_))
        refine wp_ret ?_
        repeat first | refine then_ret ?_ | refine inb_ret ?_
        exact (ret_tup2 FF8 1 0 Try.results11 rfl rfl ⟨by rw [textR_else he], MM8.below⟩)
    · skip
      refine wp_seq (rg_seq FF1 MM1 [o_, t_ (iN B.length), w_ 3, o_, o_, t_ (iB (B.getD 0 0)), w_ 1, w_ 2, o_] [3, 2, 0, 15] (fun Kt => iN ((bs B).size) = iN B.length ∧ ¬ (B.length ≠ 20) ∧ 0 < (bs B).size ∧ (nl (bs B)).getD 0 0 = B.getD 0 0 ∧ (B.getD 0 0) < 9223372036854775808 ∧ (B.getD 0 0) > 19 ∧ Kt [(15, .bool true), (3, .bool false), (2, sB []), (0, sB B)] []) (by kernel_rfl) (fun _ => by kernel_rfl) (⟨(vI (bs_size _)), (fun h => h h20), (by simp only [bs_size]; omega), (byte_bs hB _), (by have := hB 0; omega), (by omega), fun ac9 wd9 FF9 MM9 => then_n ?_⟩))
      refine wp_cond_true (FF9.ev 0 rfl) ?_
      refine wp_seq (rg_seq FF9 MM9 [o_, o_] [3, 2, 0] (fun Kt => Kt [(3, .bool false), (2, sB []), (0, sB B)] []) (by kernel_rfl) (fun _ => by kernel_rfl) (fun ac10 wd10 FF10 MM10 => then_n ?_))
      refine wp_ret ?_
      repeat first | refine then_ret ?_ | refine inb_ret ?_
      exact (ret_tup2 FF10 1 0 Try.results11 rfl rfl ⟨by rw [textR_big (by omega)], MM10.below⟩)
  · skip
    refine wp_seq (rg_seq FF1 MM1 [o_, t_ (iN B.length), w_ 2, o_, o_, o_, o_, o_, o_] [3, 2, 0, 15] (fun Kt => iN ((bs B).size) = iN B.length ∧ B.length ≠ 20 ∧ Kt [(15, .bool true), (3, .bool false), (2, sB []), (0, sB B)] []) (by kernel_rfl) (fun _ => by kernel_rfl) (⟨(vI (bs_size _)), h20, fun ac11 wd11 FF11 MM11 => then_n ?_⟩))
    refine wp_cond_true (FF11.ev 0 rfl) ?_
    refine wp_seq (rg_seq FF11 MM11 [o_, o_] [3, 2, 0] (fun Kt => Kt [(3, .bool false), (2, sB []), (0, sB B)] []) (by kernel_rfl) (fun _ => by kernel_rfl) (fun ac12 wd12 FF12 MM12 => then_n ?_))
    refine wp_ret ?_
    repeat first | refine then_ret ?_ | refine inb_ret ?_
    exact (ret_tup2 FF12 1 0 Try.results11 rfl rfl ⟨by rw [textR_len h20], MM12.below⟩)
set_option maxRecDepth 100000 in
theorem request_any (D : List Nat) (hDl : D.length = 16) (hD : ∀ i, D.getD i 0 < 256) (B : List Nat) (w0 : World) :
    Calls Try.prog 13 #[.agg (cn .u8 D), sB B] w0 fun e w' => e = .returned (.tuple #[.string (bs (requestR D B).1), iN ((requestR D B).2)]) ∧ Below w0.heap.size w0 w' := by
  refine enter_fr Try.func13 rfl Try.ntmps13 (by simp) fun ac (FF : Fr 13 ac [(0, .agg (cn .u8 D)), (1, sB B)]) => ?_
  have MM := MemS.start w0
  refine wp_seq (rg_seq FF MM [o_, o_, o_] [1, 2, 4, 5] (fun Kt => ∀ bi, Kt [(5, iN 0), (4, sB []), (2, pT bi), (1, sB B)] [(bi, .cells (cn .u8 D) 24)]) (by kernel_rfl) (fun _ => by kernel_rfl) (fun bi => fun ac1 wd1 FF1 MM1 => then_n ?_))
  refine wp_seq ?_
  refine wp_seq (rg_seq FF1 MM1 [o_, t_ (iN B.length), o_] [5, 4, 2, 1, 8] (fun Kt => iN ((bs B).size) = iN B.length ∧ Kt [(8, .bool (decide (B.length ≠ 36))), (5, iN 0), (4, sB []), (2, pT bi), (1, sB B)] [(bi, .cells (cn .u8 D) 24)]) (by kernel_rfl) (fun _ => by kernel_rfl) (⟨(vI (bs_size _)), fun ac2 wd2 FF2 MM2 => then_n ?_⟩))
  by_cases hs8 : B.length ≠ 36
  · refine wp_cond_true ((FF2.ev 0 rfl).trans (dec_t hs8)) ?_
    refine wp_seq (rg_seq FF2 MM2 [o_, o_] [5, 4, 2, 1] (fun Kt => Kt [(5, iN 5), (4, sB []), (2, pT bi), (1, sB B)] [(bi, .cells (cn .u8 D) 24)]) (by kernel_rfl) (fun _ => by kernel_rfl) (fun ac3 wd3 FF3 MM3 => then_n ?_))
    refine wp_ret ?_
    repeat first | refine then_ret ?_ | refine inb_ret ?_
    exact (ret_tup2 FF3 1 0 Try.results13 rfl rfl ⟨by rw [requestR_no hs8], MM3.below⟩)
  · refine wp_cond_false ((FF2.ev 0 rfl).trans (dec_f hs8)) ?_
    refine wp_skip ?_
    refine then_n ?_
    refine wp_seq (rg_seq FF2 MM2 [o_, l_ 0 (sB D), o_, t_ (sB (D ++ B)), o_, o_] [5, 4, 1] (fun Kt => 0 ≤ 16 ∧ 16 ≤ 16 ∧ 0 < 16 ∧ bi = bi ∧ StrAt (cn .u8 D) 0 16 (bs D) ∧ (bs D).size + (bs B).size ≤ 9223372036854775807 ∧ Value.string (bs D ++ bs B) = sB (D ++ B) ∧ Kt [(5, iN 0), (4, sB (D ++ B)), (1, sB B)] [(bi, .cells (cn .u8 D) 24)]) (by kernel_rfl) (fun _ => by kernel_rfl) (⟨(by decide), (by decide), (by decide), rfl, (str_all hDl hD), (by simp only [bs_size]; omega), (vS2 (bs_app _ _)), fun ac4 wd4 FF4 MM4 => then_n ?_⟩))
    refine wp_ret ?_
    repeat first | refine then_ret ?_ | refine inb_ret ?_
    exact (ret_tup2 FF4 1 0 Try.results13 rfl rfl ⟨by rw [requestR_ok (Decidable.of_not_not hs8)], MM4.below⟩)
set_option maxRecDepth 100000 in
theorem parts_any (X : List Nat) (hX : ∀ i, X.getD i 0 < 256) (w0 : World) :
    Calls Try.prog 14 #[sB X] w0 fun e w' => e = .returned (.tuple #[.agg (cn .u8 (partsR X).1), .string (bs (partsR X).2.1), .bool (partsR X).2.2]) ∧ Below w0.heap.size w0 w' := by
  refine enter_fr Try.func14 rfl Try.ntmps14 (by simp) fun ac (FF : Fr 19 ac [(0, sB X)]) => ?_
  have MM := MemS.start w0
  refine wp_seq (rg_seq FF MM [o_, o_, o_] [0, 2, 3, 4] (fun Kt => ∀ br, Kt [(4, .bool false), (3, sB []), (2, pT br), (0, sB X)] [(br, .cells (cn .u8 (List.replicate 16 0)) 24)]) (by kernel_rfl) (fun _ => by kernel_rfl) (fun br => fun ac1 wd1 FF1 MM1 => then_n ?_))
  refine wp_seq ?_
  refine wp_seq (rg_seq FF1 MM1 [o_, t_ (iN X.length), o_] [4, 3, 2, 0, 9] (fun Kt => iN ((bs X).size) = iN X.length ∧ Kt [(9, .bool (decide (X.length ≠ 52))), (4, .bool false), (3, sB []), (2, pT br), (0, sB X)] [(br, .cells (cn .u8 (List.replicate 16 0)) 24)]) (by kernel_rfl) (fun _ => by kernel_rfl) (⟨(vI (bs_size _)), fun ac2 wd2 FF2 MM2 => then_n ?_⟩))
  by_cases hs9 : X.length ≠ 52
  · refine wp_cond_true ((FF2.ev 0 rfl).trans (dec_t hs9)) ?_
    refine wp_seq (rg_seq FF2 MM2 [o_, b_ 0, o_, o_] [4, 3, 2, 0] (fun Kt => br = br ∧ (cn .u8 (List.replicate 16 0)).size = 16 ∧ (cn .u8 (List.replicate 16 0)).size = 16 ∧ (cn .u8 (List.replicate 16 0)).all (·.oneCell') = true ∧ (0, 0).2 = 0 ∧ Kt [(4, .bool false), (3, sB []), (2, pT br), (0, sB X)] [(br, .cells (cn .u8 (List.replicate 16 0)) 24)]) (by kernel_rfl) (fun _ => by kernel_rfl) (⟨rfl, ((cn_size _ _).trans (List.length_replicate ..)), ((cn_size _ _).trans (List.length_replicate ..)), (cn_one _ _), rfl, fun ac3 wd3 FF3 MM3 => then_n ?_⟩))
    refine wp_ret ?_
    repeat first | refine then_ret ?_ | refine inb_ret ?_
    exact (ret_ctt FF3 MM3 (k := 16) (i := 0) (j := 2) (m := 1) (m2 := 0) Try.results14 rfl rfl rfl rfl Try.underlying24 rfl (by kernel_rfl) ((cn_size _ _).trans (List.length_replicate ..)) ⟨by rw [partsR_no hs9], MM3.below⟩)
  · refine wp_cond_false ((FF2.ev 0 rfl).trans (dec_f hs9)) ?_
    have h52 : X.length = 52 := Decidable.of_not_not hs9
    refine wp_skip ?_
    refine then_n ?_
    refine wp_seq (rg_seq FF2 MM2 [o_] [4, 3, 2, 0, 5] (fun Kt => ∀ bi, Kt [(5, pT bi), (4, .bool false), (3, sB []), (2, pT br), (0, sB X)] [(bi, .cells (cn .u8 (List.replicate 16 0)) 24), (br, .cells (cn .u8 (List.replicate 16 0)) 24)]) (by kernel_rfl) (fun _ => by kernel_rfl) (fun bi => fun ac4 wd4 FF4 MM4 => then_n ?_))
    refine wp_seq (rg_seq FF4 MM4 [o_, o_, r_ (iN 16) [(0, .cells (cn .u8 (X.take 16)) 24)], o_] [5, 4, 3, 2, 0, 6] (fun Kt => 0 ≤ 16 ∧ 16 ≤ 16 ∧ 0 < 16 ∧ RunU Try.prog [(12, sB X), (11, .slice (some ⟨bi, 0, none⟩) 16 16), (5, pT bi), (4, .bool false), (3, sB []), (2, pT br), (0, sB X)] [(bi, .cells (cn .u8 (List.replicate 16 0)) 24), (br, .cells (cn .u8 (List.replicate 16 0)) 24)] (opAt Try.f14 4 2) (iN 16) [(0, .cells (cn .u8 (X.take 16)) 24)] ∧ Kt [(6, iN 16), (5, pT bi), (4, .bool false), (3, sB []), (2, pT br), (0, sB X)] [(bi, .cells (cn .u8 (X.take 16)) 24), (br, .cells (cn .u8 (List.replicate 16 0)) 24)]) (by kernel_rfl) (fun _ => by kernel_rfl) (⟨(by decide), (by decide), (by decide), (by have h0 := copyStr_ok (P := Try.prog) (l := [(12, sB X), (11, .slice (some ⟨bi, 0, none⟩) 16 16), (5, pT bi), (4, .bool false), (3, sB []), (2, pT br), (0, sB X)]) (L := [(bi, .cells (cn .u8 (List.replicate 16 0)) 24), (br, .cells (cn .u8 (List.replicate 16 0)) 24)]) (o := opAt Try.f14 4 2) (p := .tmp 11) (q := .tmp 12) (t := 40) (tq := 9) (e := 5) (T := 24) (off := 0) (len := 16) (X := X) (cs := cn .u8 (List.replicate 16 0)) (i := 0) (by kernel_rfl) rfl rfl hX Try.underlying40 (by kernel_rfl) rfl (by rw [cn_size, List.length_replicate]; decide) (parts_cells h52); rw [show min X.length 16 = 16 by omega] at h0; exact h0), fun ac5 wd5 FF5 MM5 => then_n ?_⟩))
    refine wp_seq (rg_draw FF5 MM5 [.inl (.agg (cn .u8 (X.take 16))), .inl (sB X), .inl (iN 16), .inl (sB (X.drop 16)), .inl (sB (X.drop 16))] [] [b_ 0, o_, o_, t_ (sB (X.drop 16)), t_ (sB (X.drop 16))] [b_ 1, o_, o_] [5, 4, 3, 2, 0] (fun nb => [bi = bi, (cn .u8 (X.take 16)).size = 16, 16 ≤ (bs X).size, 0 ≤ (bs X).size, Value.string ((bs X).extract 16 (bs X).size) = sB (X.drop 16), CallP Try.prog 26 [sB (X.drop 16)] [] (sB (X.drop 16))]) (fun nb Kt => br = br ∧ (cn .u8 (List.replicate 16 0)).size = 16 ∧ (cn .u8 (X.take 16)).size = 16 ∧ (cn .u8 (X.take 16)).all (·.oneCell') = true ∧ (0, 0).2 = 0 ∧ Kt [(4, .bool true), (3, sB (X.drop 16)), (5, pT bi), (2, pT br), (0, sB X)] [(bi, .cells (cn .u8 (X.take 16)) 24), (br, .cells (cn .u8 (X.take 16)) 24)]) (by kernel_rfl) (by kernel_rfl) (by kernel_rfl) (fun _ => by kernel_rfl) (fun _ _ => by kernel_rfl) trivial (fun nb => ⟨rfl, ((cn_size _ _).trans (by rw [List.length_take, h52]; rfl)), (by simp only [bs_size]; omega), (Nat.zero_le _), (vS2 (bs_from _ _)), (callP_of en_clone (clone_any (X.drop 16) (drop_lt hX) (by rw [List.length_drop]; omega)) _), trivial⟩) (fun nb => ⟨rfl, ((cn_size _ _).trans (List.length_replicate ..)), ((cn_size _ _).trans (by rw [List.length_take, h52]; rfl)), (cn_one _ _), rfl, fun ac6 wd6 FF6 MM6 => then_n ?_⟩))
    refine wp_ret ?_
    repeat first | refine then_ret ?_ | refine inb_ret ?_
    exact (ret_ctt FF6 MM6 (k := 16) (i := 1) (j := 3) (m := 1) (m2 := 0) Try.results14 rfl rfl rfl rfl Try.underlying24 rfl (by kernel_rfl) ((cn_size _ _).trans (by rw [List.length_take, h52]; rfl)) ⟨by rw [partsR_ok h52], MM6.below⟩)
end Go.Proofs.Ytjpfdmkbmpecnaa
namespace Go.Proofs.Ytjpfdmkbmpecnaa
open Go.RowKit
theorem isL_of {k m : Nat} {X : List Nat} (h2 : 2 ≤ X.length) (hm : X.getD 0 0 + X.getD 1 0 * 256 = m) (h64 : m ≤ 64) (h : (X.drop 2).length = m * k) : IsL k X := by
  have h1 : X.getD 1 0 = 0 := by omega
  have h0 : X.getD 0 0 = m := by omega
  rw [List.length_drop] at h
  refine ⟨h2, h1, by omega, ?_⟩
  rw [h0, Nat.mul_comm]
  omega
theorem isL_drop {k n : Nat} {X : List Nat} (h : IsL k X) (hn : X.getD 0 0 = n) : (X.drop 2).length = n * k := by
  have := h.2.2.2
  rw [List.length_drop, this, hn, Nat.mul_comm]
  omega
theorem isL_sum {k n : Nat} {X : List Nat} (hX : ∀ i, X.getD i 0 < 256) (h : IsL k X) (hn : X.getD 0 0 = n) : X.getD 0 0 ||| X.getD 1 0 * 256 = n := by
  have h1 : X.getD 0 0 ||| X.getD 1 0 * 256 = X.getD 0 0 + X.getD 1 0 * 256 := or_shl 8 (hX 0)
  rw [h1, h.2.1, hn]
  omega
theorem item_cut (k : Nat) (X : List Nat) (i : Nat) : ((X.drop 2).take ((i + 1) * k)).drop (i * k) = itemAt (k : Nat) X i := by
  rw [itemAt_nat, List.drop_take, List.drop_drop, Nat.succ_mul, Nat.add_sub_cancel_left, Nat.mul_comm]
theorem upto_set (f : Nat → List Nat) (i j : Nat) : (if j = i then f i else if j < i then f j else []) = if j < i + 1 then f j else [] := by
  by_cases h : j = i
  · subst h; rw [if_pos rfl, if_pos (by omega)]
  · rw [if_neg h]
    by_cases h2 : j < i
    · rw [if_pos h2, if_pos (by omega)]
    · rw [if_neg h2, if_neg (by omega)]
theorem mul_fit {a b : Nat} (ha : a ≤ 65) (hb : b ≤ 256) : a * b < 9223372036854775808 := Nat.lt_of_le_of_lt (Nat.mul_le_mul ha hb) (by decide)
set_option maxRecDepth 100000 in
theorem areof_O (O : Blks) (hD : Distinct O) (p : Option Addr) (n c : Nat) (k : Nat) (s : Nat → List Nat) (hn : n ≤ 1000000) (b : Bool) (hb : b = true ↔ ∀ j, j < n → (s j).length = k) (hF : RowO O p n (fun k9 => sB (s k9))) (w0 : World) (H : Has w0 O) :
    Calls Try.prog 30 #[iN k, .slice p n c] w0 fun e w' => e = .returned (.bool b) ∧ Below w0.heap.size w0 w' := by
  refine enter_fr Try.func30 rfl Try.ntmps30 (by simp) fun ac (FF : Fr 18 ac [(0, iN k), (1, .slice p n c)]) => ?_
  have MM : MemS (fun k => k < w0.heap.size ∧ ∀ x ∈ O, x.1 ≠ k) w0 w0 O [] := MemS.startN H hD
  refine wp_seq (rg_seq FF MM [o_] [0, 1, 4] (fun Kt => Kt [(4, .bool false), (0, iN k), (1, .slice p n c)] O) (by kernel_rfl) (fun _ => by kernel_rfl) (fun ac1 wd1 FF1 MM1 => then_n ?_))
  refine wp_seq ?_
  refine wp_seq (rg_seq FF1 MM1 [o_, o_, o_] [4, 0, 7, 8, 9] (fun Kt => Kt [(9, iN 0), (8, iN n), (7, .slice p n c), (4, .bool false), (0, iN k)] O) (by kernel_rfl) (fun _ => by kernel_rfl) (fun ac2 wd2 FF2 MM2 => then_n ?_))
  refine wp_for (fun a' w' => ∃ i : Nat, i ≤ n ∧ (∀ j, j < i → (s j).length = k) ∧ Fr 18 a' [(9, iN i), (8, iN n), (7, .slice p n c), (0, iN k)] ∧ MemS (fun k => k < w0.heap.size ∧ ∀ x ∈ O, x.1 ≠ k) w0 w' O []) (fun a' _ => (n - cnt 9 a').toNat) ⟨0, Nat.zero_le _, (fun j hj => absurd hj (Nat.not_lt_zero _)), FF2.pick [0, 1, 2, 4], MM2⟩ ?_
  rintro ac3 wd3 ⟨i, hi, hA, FF3, MM3⟩
  have hc := cnt_of (FF3.get 0 rfl)
  refine rg_seq FF3 MM3 [o_] [9, 8, 7, 0, 10] (fun Kt => Kt [(10, .bool (decide (i < n))), (9, iN i), (8, iN n), (7, .slice p n c), (0, iN k)] O) (by kernel_rfl) (fun _ => by kernel_rfl) (fun ac4 wd4 FF4 MM4 => ?_)
  by_cases hlt : i < n
  · skip
    refine then_n (.inl ⟨(FF4.ev 0 rfl).trans (dec_t hlt), ?_⟩)
    refine wp_seq (rg_seq FF4 MM4 [f_ (.pointer (some ⟨gOf p, oOf p + i, none⟩)), f_ (sB (s i)), o_] [9, 8, 7, 0, 6] (fun Kt => RunV Try.prog [(10, .bool (decide (i < n))), (9, iN i), (8, iN n), (7, .slice p n c), (0, iN k)] O (opAt Try.f30 3 0) (.pointer (some ⟨gOf p, oOf p + i, none⟩)) ∧ RunV Try.prog [(11, .pointer (some ⟨gOf p, oOf p + i, none⟩)), (10, .bool (decide (i < n))), (9, iN i), (8, iN n), (7, .slice p n c), (0, iN k)] O (opAt Try.f30 3 1) (sB (s i)) ∧ Kt [(6, sB (s i)), (9, iN i), (8, iN n), (7, .slice p n c), (0, iN k)] O) (by kernel_rfl) (fun _ => by kernel_rfl) (⟨(rowX_addr (x := (.tmp 7)) (y := (.tmp 9)) (k := 1) (i := i) (by kernel_rfl) rfl rfl Try.underlying26 (by kernel_rfl) hF (by omega) (by omega)), (rowX_load (x := (.tmp 11)) (j := i) (by kernel_rfl) rfl Try.underlying9 rfl hF (fun _ hx => hx) (by omega) rfl), fun ac5 wd5 FF5 MM5 => then_n ?_⟩))
    refine wp_seq (rg_seq FF5 MM5 [o_, t_ (iN ((s i).length)), o_, o_] [6, 9, 8, 7, 0, 16] (fun Kt => iN ((bs (s i)).size) = iN ((s i).length) ∧ Kt [(16, .bool (decide (((s i).length) ≠ k))), (6, sB (s i)), (9, iN i), (8, iN n), (7, .slice p n c), (0, iN k)] O) (by kernel_rfl) (fun _ => by kernel_rfl) (⟨(vI (bs_size _)), fun ac6 wd6 FF6 MM6 => then_n ?_⟩))
    by_cases hs16 : ((s i).length) ≠ k
    · refine wp_cond_true ((FF6.ev 0 rfl).trans (dec_t hs16)) ?_
      refine wp_seq (rg_seq FF6 MM6 [o_] [6, 9, 8, 7, 0, 4] (fun Kt => Kt [(4, .bool false), (6, sB (s i)), (9, iN i), (8, iN n), (7, .slice p n c), (0, iN k)] O) (by kernel_rfl) (fun _ => by kernel_rfl) (fun ac7 wd7 FF7 MM7 => then_n ?_))
      refine wp_ret ?_
      repeat first | refine then_ret ?_ | refine inb_ret ?_
      exact (ret_fr FF7 0 Try.results30 rfl ⟨congrArg (fun b => Ending.returned (Value.bool b)) (Bool.eq_false_iff.2 (fun h => hs16 (hb.1 h i hlt))).symm, MM7.belowN H (fun _ hx => hx)⟩)
    · refine wp_cond_false ((FF6.ev 0 rfl).trans (dec_f hs16)) ?_
      refine wp_skip ?_
      refine inb_n (then_n ?_)
      refine rg_seq FF6 MM6 [o_, o_] [6, 9, 8, 7, 0] (fun Kt => i + 1 < 9223372036854775808 ∧ Kt [(9, iN (i + 1)), (6, sB (s i)), (8, iN n), (7, .slice p n c), (0, iN k)] O) (by kernel_rfl) (fun _ => by kernel_rfl) (⟨(by omega), fun ac8 wd8 FF8 MM8 => ?_⟩)
      have hd := cnt_of (FF8.get 0 rfl)
      refine then_n ⟨⟨i + 1, by omega, (fun j hj => (Nat.lt_or_ge j i).elim (hA j) (fun h => (show i = j by omega) ▸ Decidable.of_not_not hs16)), FF8.pick [0, 2, 3, 4], MM8⟩, ?_⟩
      rw [hc, hd]; omega
  · skip
    refine then_n (.inr ⟨(FF4.ev 0 rfl).trans (dec_f hlt), ?_⟩)
    obtain rfl : n = i := by omega
    refine then_n ?_
    refine wp_seq (rg_seq FF4 MM4 [o_] [9, 8, 7, 0, 4] (fun Kt => Kt [(4, .bool true), (9, iN n), (8, iN n), (7, .slice p n c), (0, iN k)] O) (by kernel_rfl) (fun _ => by kernel_rfl) (fun ac9 wd9 FF9 MM9 => then_n ?_))
    refine wp_ret ?_
    repeat first | refine then_ret ?_ | refine inb_ret ?_
    exact (ret_fr FF9 0 Try.results30 rfl ⟨congrArg (fun b => Ending.returned (Value.bool b)) (hb.2 hA).symm, MM9.belowN H (fun _ hx => hx)⟩)
theorem areof_w (p : Option Addr) (n c : Nat) (k : Nat) (s : Nat → List Nat) (hn : n ≤ 1000000) (b : Bool) (hb : b = true ↔ ∀ j, j < n → (s j).length = k) (w : World) (hF : RowIn w p n (fun k9 => sB (s k9))) :
    Calls Try.prog 30 #[iN k, .slice p n c] w fun e w' => e = .returned (.bool b) ∧ Below w.heap.size w w' := by
  obtain ⟨O, h1, h2, h3⟩ := row_O hF
  exact areof_O O h2 p n c k s hn b hb h3 w h1
set_option maxRecDepth 100000 in
theorem count_any (n : Nat) (hn : n ≤ 64) (w0 : World) :
    Calls Try.prog 31 #[iN n] w0 fun e w' => e = .returned (sB [n, 0]) ∧ Below w0.heap.size w0 w' := by
  refine enter_fr Try.func31 rfl Try.ntmps31 (by simp) fun ac (FF : Fr 10 ac [(0, iN n)]) => ?_
  have MM := MemS.start w0
  have h2b : ∀ i, [n, 0].getD i 0 < 256 := cons_lt (by omega) (lit_lt (by kernel_rfl))
  refine wp_seq (rg_seq FF MM [o_] [0, 2] (fun Kt => Kt [(2, sB []), (0, iN n)] []) (by kernel_rfl) (fun _ => by kernel_rfl) (fun ac1 wd1 FF1 MM1 => then_n ?_))
  refine wp_seq (rg_seq FF1 MM1 [o_, t_ (iB n), o_, o_, t_ (iB 0), o_, l_ 0 (sB ([n, 0])), o_] [2] (fun Kt => iB (n % 256) = iB n ∧ 8 ≤ 64 ∧ iB ((n / 256) % 256) = iB 0 ∧ ∀ b1, b1 = b1 ∧ StrAt (cn .u8 ([n, 0])) 0 2 (bs ([n, 0])) ∧ Kt [(2, sB ([n, 0]))] [(b1, .cells (cn .u8 ([n, 0])) 5)]) (by kernel_rfl) (fun _ => by kernel_rfl) (⟨(vI (Nat.mod_eq_of_lt (by omega))), (by decide), (vI (by omega)), fun b1 => ⟨rfl, (str_all rfl h2b), fun ac2 wd2 FF2 MM2 => then_n ?_⟩⟩))
  refine wp_ret ?_
  repeat first | refine then_ret ?_ | refine inb_ret ?_
  exact (ret_fr FF2 0 Try.results31 rfl ⟨rfl, MM2.below⟩)
set_option maxRecDepth 100000 in
theorem list_natO (O : Blks) (hD : Distinct O) (p : Option Addr) (n c : Nat) (s : Nat → List Nat) (hn : n ≤ 1000000) (hc : n ≤ c) (k : Nat) (h1 : 1 ≤ k) (h2 : k ≤ 256) (hF : RowO O p n (fun k9 => sB (s k9))) (w0 : World) (H : Has w0 O) :
    Calls Try.prog 20 #[iN k, .slice p n c] w0 fun e w' => e = .returned (.tuple #[.string (bs (listR (k : Nat) n s).1), iN ((listR (k : Nat) n s).2)]) ∧ Below w0.heap.size w0 w' := by
  refine enter_fr Try.func20 rfl Try.ntmps20 (by simp) fun ac (FF : Fr 25 ac [(0, iN k), (1, .slice p n c)]) => ?_
  have MM : MemS (fun k => k < w0.heap.size ∧ ∀ x ∈ O, x.1 ≠ k) w0 w0 O [] := MemS.startN H hD
  refine wp_seq (rg_seq FF MM [o_, o_] [0, 1, 4, 5] (fun Kt => Kt [(5, iN 0), (4, sB []), (0, iN k), (1, .slice p n c)] O) (by kernel_rfl) (fun _ => by kernel_rfl) (fun ac1 wd1 FF1 MM1 => then_n ?_))
  refine wp_seq ?_
  refine wp_block ?_
  refine wp_seq (rg_seq FF1 MM1 [o_, t_ (.bool true), o_, o_] [5, 4, 0, 1, 6] (fun Kt => CallP Try.prog 29 [iN k] [] (.bool true) ∧ Kt [(6, .bool false), (5, iN 0), (4, sB []), (0, iN k), (1, .slice p n c)] O) (by kernel_rfl) (fun _ => by kernel_rfl) (⟨(callP_of en_maysz (maysz_yes k (by omega) (by omega)) _), fun ac2 wd2 FF2 MM2 => then_n ?_⟩))
  refine wp_cond_false (FF2.ev 0 rfl) ?_
  refine wp_seq (rg_seq FF2 MM2 [o_, o_, o_, o_] [5, 4, 0, 1, 10] (fun Kt => Kt [(10, .bool (decide (n > 64))), (5, iN 0), (4, sB []), (0, iN k), (1, .slice p n c)] O) (by kernel_rfl) (fun _ => by kernel_rfl) (fun ac3 wd3 FF3 MM3 => then_n ?_))
  by_cases hs10 : n > 64
  · refine wp_cond_true ((FF3.ev 0 rfl).trans (dec_t hs10)) ?_
    refine wp_seq (rg_seq FF3 MM3 [o_, o_] [5, 4, 0, 1] (fun Kt => Kt [(5, iN 6), (4, sB []), (0, iN k), (1, .slice p n c)] O) (by kernel_rfl) (fun _ => by kernel_rfl) (fun ac4 wd4 FF4 MM4 => then_n ?_))
    refine wp_ret ?_
    repeat first | refine then_ret ?_ | refine inb_ret ?_
    exact (ret_tup2 FF4 1 0 Try.results20 rfl rfl ⟨by rw [listR_many h1 h2 hs10], MM4.belowN H (fun _ hx => hx)⟩)
  · refine wp_cond_false ((FF3.ev 0 rfl).trans (dec_f hs10)) ?_
    by_cases hA : ∀ i, i < n → (s i).length = k
    · skip
      refine wp_seq (rg_seq FF3 MM3 [o_, o_, u_ 1 (.bool true), o_, o_] [5, 4, 0, 1, 14] (fun Kt => CallP Try.prog 30 [iN k, .slice p n c] O (.bool true) ∧ Kt [(14, .bool false), (5, iN 0), (4, sB []), (0, iN k), (1, .slice p n c)] O) (by kernel_rfl) (fun _ => by kernel_rfl) (⟨⟨en_areof, fun w Hw => areof_w p n c k (fun k9 => s k9) (by omega) true ⟨fun _ => hA, fun _ => rfl⟩ w (hF.at Hw)⟩, fun ac5 wd5 FF5 MM5 => then_n ?_⟩))
      refine wp_cond_false (FF5.ev 0 rfl) ?_
      refine wp_skip ?_
      refine inb_n ?_
      refine then_n ?_
      have hfl := flatF_len hA
      have hkn : k * n ≤ 256 * 64 := Nat.mul_le_mul h2 (by omega)
      refine wp_seq (rg_seq FF5 MM5 [o_, o_, t_ (sB ([n, 0])), o_, u_ 1 (sB (flatF s n)), t_ (sB (n :: 0 :: flatF s n)), o_, o_] [5, 4, 0, 1] (fun Kt => CallP Try.prog 31 [iN n] [] (sB ([n, 0])) ∧ CallP Try.prog 32 [.slice p n c, sB []] O (sB (flatF s n)) ∧ (bs ([n, 0])).size + (bs (flatF s n)).size ≤ 9223372036854775807 ∧ Value.string (bs ([n, 0]) ++ bs (flatF s n)) = sB (n :: 0 :: flatF s n) ∧ Kt [(5, iN 0), (4, sB (n :: 0 :: flatF s n)), (0, iN k), (1, .slice p n c)] O) (by kernel_rfl) (fun _ => by kernel_rfl) (⟨(callP_of en_count (count_any n (by omega)) _), ⟨en_join, fun w Hw => join_w p n c s (by omega) hc (by omega) w (hF.at Hw)⟩, (by simp only [bs_size, List.length_cons, List.length_nil]; omega), (vS2 (bs_app _ _)), fun ac6 wd6 FF6 MM6 => then_n ?_⟩))
      refine wp_ret ?_
      repeat first | refine then_ret ?_ | refine inb_ret ?_
      exact (ret_tup2 FF6 1 0 Try.results20 rfl rfl ⟨by rw [listR_ok h1 h2 (by omega) hA], MM6.belowN H (fun _ hx => hx)⟩)
    · skip
      refine wp_seq (rg_seq FF3 MM3 [o_, o_, u_ 1 (.bool false), o_, o_] [5, 4, 0, 1, 14] (fun Kt => CallP Try.prog 30 [iN k, .slice p n c] O (.bool false) ∧ Kt [(14, .bool true), (5, iN 0), (4, sB []), (0, iN k), (1, .slice p n c)] O) (by kernel_rfl) (fun _ => by kernel_rfl) (⟨⟨en_areof, fun w Hw => areof_w p n c k (fun k9 => s k9) (by omega) false ⟨fun h => (by cases h), fun h => (hA h).elim⟩ w (hF.at Hw)⟩, fun ac7 wd7 FF7 MM7 => then_n ?_⟩))
      refine wp_cond_true (FF7.ev 0 rfl) ?_
      refine wp_seq (rg_seq FF7 MM7 [o_, o_] [5, 4, 0, 1] (fun Kt => Kt [(5, iN 5), (4, sB []), (0, iN k), (1, .slice p n c)] O) (by kernel_rfl) (fun _ => by kernel_rfl) (fun ac8 wd8 FF8 MM8 => then_n ?_))
      refine wp_ret ?_
      repeat first | refine then_ret ?_ | refine inb_ret ?_
      exact (ret_tup2 FF8 1 0 Try.results20 rfl rfl ⟨by rw [listR_form h1 h2 (by omega) hA], MM8.belowN H (fun _ hx => hx)⟩)
set_option maxRecDepth 100000 in
theorem list_badO (O : Blks) (hD : Distinct O) (p : Option Addr) (n c : Nat) (s : Nat → List Nat) (_hn : n ≤ 1000000) (z : Int) (hz : z < 1 ∨ z > 256) (_hF : RowO O p n (fun k9 => sB (s k9))) (w0 : World) (H : Has w0 O) :
    Calls Try.prog 20 #[.int .i64 z, .slice p n c] w0 fun e w' => e = .returned (.tuple #[.string (bs (listR z n s).1), iN ((listR z n s).2)]) ∧ Below w0.heap.size w0 w' := by
  refine enter_fr Try.func20 rfl Try.ntmps20 (by simp) fun ac (FF : Fr 25 ac [(0, .int .i64 (z : Int)), (1, .slice p n c)]) => ?_
  have MM : MemS (fun k => k < w0.heap.size ∧ ∀ x ∈ O, x.1 ≠ k) w0 w0 O [] := MemS.startN H hD
  refine wp_seq (rg_seq FF MM [o_, o_] [0, 1, 4, 5] (fun Kt => Kt [(5, iN 0), (4, sB []), (0, .int .i64 (z : Int)), (1, .slice p n c)] O) (by kernel_rfl) (fun _ => by kernel_rfl) (fun ac1 wd1 FF1 MM1 => then_n ?_))
  refine wp_seq ?_
  refine wp_block ?_
  refine wp_seq (rg_seq FF1 MM1 [o_, t_ (.bool false), o_, o_] [5, 4, 0, 1, 6] (fun Kt => CallP Try.prog 29 [.int .i64 (z : Int)] [] (.bool false) ∧ Kt [(6, .bool true), (5, iN 0), (4, sB []), (0, .int .i64 (z : Int)), (1, .slice p n c)] O) (by kernel_rfl) (fun _ => by kernel_rfl) (⟨(callP_of en_maysz (maysz_no z hz) _), fun ac2 wd2 FF2 MM2 => then_n ?_⟩))
  refine wp_cond_true (FF2.ev 0 rfl) ?_
  refine wp_seq (rg_seq FF2 MM2 [o_, o_] [5, 4, 0, 1] (fun Kt => Kt [(5, iN 1), (4, sB []), (0, .int .i64 (z : Int)), (1, .slice p n c)] O) (by kernel_rfl) (fun _ => by kernel_rfl) (fun ac3 wd3 FF3 MM3 => then_n ?_))
  refine wp_ret ?_
  repeat first | refine then_ret ?_ | refine inb_ret ?_
  exact (ret_tup2 FF3 1 0 Try.results20 rfl rfl ⟨by rw [listR_bad hz], MM3.belowN H (fun _ hx => hx)⟩)
theorem list_w (p : Option Addr) (n c : Nat) (s : Nat → List Nat) (hn : n ≤ 1000000) (hc : n ≤ c) (z : Int) (w : World) (hF : RowIn w p n (fun k9 => sB (s k9))) :
    Calls Try.prog 20 #[.int .i64 z, .slice p n c] w fun e w' => e = .returned (.tuple #[.string (bs (listR z n s).1), iN ((listR z n s).2)]) ∧ Below w.heap.size w w' := by
  obtain ⟨O, g1, g2, g3⟩ := row_O hF
  by_cases hz : z < 1 ∨ z > 256
  · exact list_badO O g2 p n c s hn z hz g3 w g1
  · obtain ⟨k, rfl⟩ := Int.eq_ofNat_of_zero_le (a := z) (by omega)
    exact list_natO O g2 p n c s hn hc k (by omega) (by omega) g3 w g1
end Go.Proofs.Ytjpfdmkbmpecnaa
namespace Go.Proofs.Ytjpfdmkbmpecnaa
open Go.RowKit
set_option maxRecDepth 100000 in
theorem items_okw (X : List Nat) (hX : ∀ i, X.getD i 0 < 256) (k : Nat) (h1 : 1 ≤ k) (h2 : k ≤ 256) (hL : IsL k X) (n : Nat) (hn0 : X.getD 0 0 = n) (w0 : World) :
    Calls Try.prog 22 #[iN k, sB X] w0 fun e w' => ∃ v, e = .returned (.tuple #[.slice (pOf v) n (cOf v), iN 0]) ∧ Below w0.heap.size w0 w' ∧ RowNew w0.heap.size w' (pOf v) n (fun k9 => sB (itemAt (k : Nat) X k9)) ∧ n ≤ cOf v := by
  refine enter_fr Try.func22 rfl Try.ntmps22 (by simp) fun ac (FF : Fr 58 ac [(0, iN k), (1, sB X)]) => ?_
  have MM := MemS.start w0
  have hdl := isL_drop hL hn0
  have hn64 : n ≤ 64 := hn0 ▸ hL.2.2.1
  have h2l := hL.1
  refine wp_seq (rg_seq FF MM [o_, o_] [0, 1, 4, 5] (fun Kt => Kt [(5, iN 0), (4, .slice none 0 0), (0, iN k), (1, sB X)] []) (by kernel_rfl) (fun _ => by kernel_rfl) (fun ac1 wd1 FF1 MM1 => then_n ?_))
  refine wp_seq ?_
  refine wp_seq (rg_seq FF1 MM1 [o_, t_ (.bool true), o_] [5, 4, 0, 1, 12] (fun Kt => CallP Try.prog 29 [iN k] [] (.bool true) ∧ Kt [(12, .bool false), (5, iN 0), (4, .slice none 0 0), (0, iN k), (1, sB X)] []) (by kernel_rfl) (fun _ => by kernel_rfl) (⟨(callP_of en_maysz (maysz_yes k (by omega) (by omega)) _), fun ac2 wd2 FF2 MM2 => then_n ?_⟩))
  refine wp_cond_false (FF2.ev 0 rfl) ?_
  refine wp_skip ?_
  refine then_n ?_
  refine wp_seq ?_
  refine wp_seq (rg_seq FF2 MM2 [o_, t_ (iN X.length), w_ 3] [5, 4, 0, 1, 15] (fun Kt => iN ((bs X).size) = iN X.length ∧ ¬ (X.length < 2) ∧ Kt [(15, .bool false), (5, iN 0), (4, .slice none 0 0), (0, iN k), (1, sB X)] []) (by kernel_rfl) (fun _ => by kernel_rfl) (⟨(vI (bs_size _)), (by omega), fun ac3 wd3 FF3 MM3 => then_n ?_⟩))
  refine wp_cond_false (FF3.ev 0 rfl) ?_
  refine wp_skip ?_
  refine then_n ?_
  refine wp_seq (rg_draw FF3 MM3 [.inl (sB X), .inl (iB (X.getD 0 0)), .inl (iN (X.getD 0 0)), .inl (sB X), .inl (iB (X.getD 1 0)), .inl (iN (X.getD 1 0)), .inl (iN ((X.getD 1 0) * 256)), .inl (iN n), .inl (iN n)] [] [o_, t_ (iB (X.getD 0 0)), w_ 1, o_, t_ (iB (X.getD 1 0)), w_ 1, o_, t_ (iN n), o_] [] [5, 4, 0, 1, 6] (fun nb => [0 < (bs X).size, (nl (bs X)).getD 0 0 = X.getD 0 0, (X.getD 0 0) < 9223372036854775808, 1 < (bs X).size, (nl (bs X)).getD 1 0 = X.getD 1 0, (X.getD 1 0) < 9223372036854775808, (X.getD 1 0) * 256 < 9223372036854775808, 8 ≤ 64, (X.getD 0 0) < 9223372036854775808, ((X.getD 1 0) * 256) < 9223372036854775808, iN ((X.getD 0 0) ||| ((X.getD 1 0) * 256)) = iN n]) (fun nb Kt => Kt [(6, iN n), (5, iN 0), (4, .slice none 0 0), (0, iN k), (1, sB X)] []) (by kernel_rfl) (by kernel_rfl) (by kernel_rfl) (fun _ => by kernel_rfl) (fun _ _ => by kernel_rfl) trivial (fun nb => ⟨(by simp only [bs_size]; omega), (byte_bs hX _), (by have := hX 0; omega), (by simp only [bs_size]; omega), (byte_bs hX _), (by have := hX 1; omega), (by have := hX 1; omega), (by decide), (by have := hX 0; omega), (by have := hX 1; omega), (vI (isL_sum hX hL hn0)), trivial⟩) (fun nb => fun ac4 wd4 FF4 MM4 => then_n ?_))
  refine wp_seq (rg_seq FF4 MM4 [o_, t_ (sB (X.drop 2)), o_] [6, 5, 4, 0, 1, 7] (fun Kt => 2 ≤ (bs X).size ∧ 0 ≤ (bs X).size ∧ Value.string ((bs X).extract 2 (bs X).size) = sB (X.drop 2) ∧ Kt [(7, sB (X.drop 2)), (6, iN n), (5, iN 0), (4, .slice none 0 0), (0, iN k), (1, sB X)] []) (by kernel_rfl) (fun _ => by kernel_rfl) (⟨(by simp only [bs_size]; omega), (Nat.zero_le _), (vS2 (bs_from _ _)), fun ac5 wd5 FF5 MM5 => then_n ?_⟩))
  refine wp_seq ?_
  refine wp_seq (rg_seq FF5 MM5 [o_, w_ 3, o_, o_, t_ (iN (n * k)), o_, o_, o_, w_ 3, o_] [7, 6, 5, 4, 0, 1, 35] (fun Kt => ¬ (n > 64) ∧ iN ((bs (X.drop 2)).size) = iN (n * k) ∧ n * k < 9223372036854775808 ∧ ¬ ((n * k) ≠ (n * k)) ∧ Kt [(35, .bool false), (7, sB (X.drop 2)), (6, iN n), (5, iN 0), (4, .slice none 0 0), (0, iN k), (1, sB X)] []) (by kernel_rfl) (fun _ => by kernel_rfl) (⟨(by omega), (vI ((bs_size _).trans (by assumption))), (mul_fit (by omega) h2), (fun h => h rfl), fun ac6 wd6 FF6 MM6 => then_n ?_⟩))
  refine wp_cond_false (FF6.ev 0 rfl) ?_
  refine wp_skip ?_
  refine then_n ?_
  refine wp_seq (rg_seq FF6 MM6 [o_, n_ (.slice none n n) (.cells (fc n (fun k9 => sB [])) 9), o_] [7, 6, 5, 4, 0, 1, 8] (fun Kt => RunN Try.prog [(36, iN n), (35, .bool false), (7, sB (X.drop 2)), (6, iN n), (5, iN 0), (4, .slice none 0 0), (0, iN k), (1, sB X)] [] (opAt Try.f22 9 1) (mkOf (.slice none n n)) (.cells (fc n (fun k9 => sB [])) 9) ∧ ∀ bl, Kt [(8, .slice (some ⟨bl, 0, none⟩) n n), (7, sB (X.drop 2)), (6, iN n), (5, iN 0), (4, .slice none 0 0), (0, iN k), (1, sB X)] [(bl, .cells (fc n (fun k9 => sB [])) 9)]) (by kernel_rfl) (fun _ => by kernel_rfl) (⟨(makeF_ok (t := 26) (e := 9) (p := (.tmp 36)) (q := (.tmp 36)) (bb := 16) (z := sB []) (by kernel_rfl) rfl rfl Try.underlying26 (by kernel_rfl) rfl (by omega) (by omega)), fun bl => fun ac7 wd7 FF7 MM7 => then_n ?_⟩))
  have MMr8 : MemS (fun k => k < w0.heap.size) w0 wd7 [(bl, .cells (fc n (fun k9 => sB (if k9 < 0 then itemAt (k : Nat) X k9 else []))) 9)] [] := by rw [show fc n (fun k9 => sB (if k9 < 0 then itemAt (k : Nat) X k9 else [])) = fc n (fun k9 => sB []) from fc_cong fun j _ => vS (if_neg (Nat.not_lt_zero j))]; exact MM7
  refine wp_seq ?_
  refine wp_seq (rg_seq FF7 MMr8 [o_, o_, o_] [8, 7, 6, 5, 4, 0, 1, 39, 40] (fun Kt => Kt [(40, iN 0), (39, iN n), (8, .slice (some ⟨bl, 0, none⟩) n n), (7, sB (X.drop 2)), (6, iN n), (5, iN 0), (4, .slice none 0 0), (0, iN k), (1, sB X)] [(bl, .cells (fc n (fun k9 => sB (if k9 < 0 then itemAt (k : Nat) X k9 else []))) 9)]) (by kernel_rfl) (fun _ => by kernel_rfl) (fun ac9 wd9 FF9 MM9 => then_n ?_))
  refine wp_for (fun a' w' => ∃ i : Nat, i ≤ n ∧ Fr 58 a' [(40, iN i), (39, iN n), (8, .slice (some ⟨bl, 0, none⟩) n n), (7, sB (X.drop 2)), (6, iN n), (5, iN 0), (4, .slice none 0 0), (0, iN k), (1, sB X)] ∧ MemS (fun k => k < w0.heap.size) w0 w' [(bl, .cells (fc n (fun k9 => sB (if k9 < i then itemAt (k : Nat) X k9 else []))) 9)] []) (fun a' _ => (n - cnt 40 a').toNat) ⟨0, Nat.zero_le _, FF9.pick [0, 1, 2, 3, 4, 5, 6, 7, 8], MM9⟩ ?_
  rintro ac10 wd10 ⟨i, hi, FF10, MM10⟩
  have hc := cnt_of (FF10.get 0 rfl)
  refine rg_seq FF10 MM10 [o_] [40, 39, 8, 7, 6, 5, 4, 0, 1, 41] (fun Kt => Kt [(41, .bool (decide (i < n))), (40, iN i), (39, iN n), (8, .slice (some ⟨bl, 0, none⟩) n n), (7, sB (X.drop 2)), (6, iN n), (5, iN 0), (4, .slice none 0 0), (0, iN k), (1, sB X)] [(bl, .cells (fc n (fun k9 => sB (if k9 < i then itemAt (k : Nat) X k9 else []))) 9)]) (by kernel_rfl) (fun _ => by kernel_rfl) (fun ac11 wd11 FF11 MM11 => ?_)
  by_cases hlt : i < n
  · skip
    refine then_n (.inl ⟨(FF11.ev 0 rfl).trans (dec_t hlt), ?_⟩)
    refine wp_seq (rg_seq FF11 MM11 [o_, o_] [40, 39, 8, 7, 6, 5, 4, 0, 1, 9] (fun Kt => Kt [(9, iN i), (40, iN i), (39, iN n), (8, .slice (some ⟨bl, 0, none⟩) n n), (7, sB (X.drop 2)), (6, iN n), (5, iN 0), (4, .slice none 0 0), (0, iN k), (1, sB X)] [(bl, .cells (fc n (fun k9 => sB (if k9 < i then itemAt (k : Nat) X k9 else []))) 9)]) (by kernel_rfl) (fun _ => by kernel_rfl) (fun ac12 wd12 FF12 MM12 => then_n ?_))
    have e1 : (i + 1) * k = i * k + k := Nat.succ_mul i k
    have e2 : (i + 1) * k ≤ n * k := Nat.mul_le_mul_right k hlt
    refine rg_seq FF12 MM12 [o_, o_, o_, o_, o_, o_, o_, o_, o_, o_, t_ (sB (itemAt (k : Nat) X i)), t_ (sB (itemAt (k : Nat) X i)), w_ 1, s_ 0 (.cells (fc n (fun k9 => sB (if k9 < i + 1 then itemAt (k : Nat) X k9 else []))) 9)] [9, 40, 39, 8, 7, 6, 5, 4, 0, 1] (fun Kt => i * k < 9223372036854775808 ∧ i + 1 < 9223372036854775808 ∧ (i + 1) * k < 9223372036854775808 ∧ (i * k) ≤ ((i + 1) * k) ∧ ((i + 1) * k) ≤ (bs (X.drop 2)).size ∧ Value.string ((bs (X.drop 2)).extract (i * k) ((i + 1) * k)) = sB (itemAt (k : Nat) X i) ∧ CallP Try.prog 26 [sB (itemAt (k : Nat) X i)] [] (sB (itemAt (k : Nat) X i)) ∧ i < n ∧ bl = bl ∧ i < (fc n (fun k9 => sB (if k9 < i then itemAt (k : Nat) X k9 else []))).size ∧ (((0, 0)).2 = 0 ∨ i < ((0, 0)).1) ∧ (fc n (fun k9 => sB (if k9 < i then itemAt (k : Nat) X k9 else []))).setIfInBounds i (sB (itemAt (k : Nat) X i)) = fc n (fun k9 => sB (if k9 < i + 1 then itemAt (k : Nat) X k9 else [])) ∧ Kt [(9, iN i), (40, iN i), (39, iN n), (8, .slice (some ⟨bl, 0, none⟩) n n), (7, sB (X.drop 2)), (6, iN n), (5, iN 0), (4, .slice none 0 0), (0, iN k), (1, sB X)] [(bl, .cells (fc n (fun k9 => sB (if k9 < i + 1 then itemAt (k : Nat) X k9 else []))) 9)]) (by kernel_rfl) (fun _ => by kernel_rfl) (⟨(mul_fit (by omega) h2), (by omega), (mul_fit (by omega) h2), (by omega), (by rw [bs_size, show (X.drop 2).length = n * k from hdl]; omega), (vS2 ((bs_extract _ _ _).trans (congrArg bs (item_cut k X i)))), (callP_of en_clone (clone_any (itemAt (k : Nat) X i) (itemAt_lt hX i) (by rw [item_len hL (by omega)]; omega)) _), (by omega), rfl, (by rw [fc_size]; exact hlt), (.inl rfl), ((fc_set _ _ _ _).trans (fc_cong fun j _ => ite_str.trans (vS (upto_set (itemAt (k : Nat) X) i j)))), fun ac13 wd13 FF13 MM13 => ?_⟩)
    refine inb_n (then_n ?_)
    refine rg_seq FF13 MM13 [o_, o_] [9, 40, 39, 8, 7, 6, 5, 4, 0, 1] (fun Kt => i + 1 < 9223372036854775808 ∧ Kt [(40, iN (i + 1)), (9, iN i), (39, iN n), (8, .slice (some ⟨bl, 0, none⟩) n n), (7, sB (X.drop 2)), (6, iN n), (5, iN 0), (4, .slice none 0 0), (0, iN k), (1, sB X)] [(bl, .cells (fc n (fun k9 => sB (if k9 < i + 1 then itemAt (k : Nat) X k9 else []))) 9)]) (by kernel_rfl) (fun _ => by kernel_rfl) (⟨(by omega), fun ac14 wd14 FF14 MM14 => ?_⟩)
    have hd := cnt_of (FF14.get 0 rfl)
    refine then_n ⟨⟨i + 1, by omega, FF14.pick [0, 2, 3, 4, 5, 6, 7, 8, 9], MM14⟩, ?_⟩
    rw [hc, hd]; omega
  · skip
    refine then_n (.inr ⟨(FF11.ev 0 rfl).trans (dec_f hlt), ?_⟩)
    obtain rfl : n = i := by omega
    have MMr15 : MemS (fun k => k < w0.heap.size) w0 wd11 [(bl, .cells (fc n (fun k9 => sB (itemAt (k : Nat) X k9))) 9)] [] := by rw [show fc n (fun k9 => sB (itemAt (k : Nat) X k9)) = fc n (fun k9 => sB (if k9 < n then itemAt (k : Nat) X k9 else [])) from fc_cong fun j hj => vS (if_pos hj).symm]; exact MM11
    refine then_n ?_
    refine wp_seq (rg_seq FF11 MMr15 [o_, o_, o_] [40, 39, 8, 7, 6, 5, 4, 0, 1] (fun Kt => Kt [(5, iN 0), (4, .slice (some ⟨bl, 0, none⟩) n n), (40, iN n), (39, iN n), (8, .slice (some ⟨bl, 0, none⟩) n n), (7, sB (X.drop 2)), (6, iN n), (0, iN k), (1, sB X)] [(bl, .cells (fc n (fun k9 => sB (itemAt (k : Nat) X k9))) 9)]) (by kernel_rfl) (fun _ => by kernel_rfl) (fun ac16 wd16 FF16 MM16 => then_n ?_))
    refine wp_ret ?_
    repeat first | refine then_ret ?_ | refine inb_ret ?_
    exact (ret_tup2 FF16 1 0 Try.results22 rfl rfl ⟨.slice (some ⟨bl, 0, none⟩) n n, rfl, MM16.below, rowNew_fc (MM16.get 0 rfl) (MM16.fresh 0 rfl), Nat.le_refl _⟩)
set_option maxRecDepth 100000 in
theorem items_now (X : List Nat) (hX : ∀ i, X.getD i 0 < 256) (k : Nat) (h1 : 1 ≤ k) (h2 : k ≤ 256) (hL : ¬ IsL k X) (w0 : World) :
    Calls Try.prog 22 #[iN k, sB X] w0 fun e w' => e = .returned (.tuple #[.slice none 0 0, iN 5]) ∧ Below w0.heap.size w0 w' := by
  refine enter_fr Try.func22 rfl Try.ntmps22 (by simp) fun ac (FF : Fr 58 ac [(0, iN k), (1, sB X)]) => ?_
  have MM := MemS.start w0
  obtain ⟨m, hm⟩ : ∃ m, X.getD 0 0 + X.getD 1 0 * 256 = m := ⟨_, rfl⟩
  have hm16 : m < 65792 := by have := hX 0; have := hX 1; omega
  refine wp_seq (rg_seq FF MM [o_, o_] [0, 1, 4, 5] (fun Kt => Kt [(5, iN 0), (4, .slice none 0 0), (0, iN k), (1, sB X)] []) (by kernel_rfl) (fun _ => by kernel_rfl) (fun ac1 wd1 FF1 MM1 => then_n ?_))
  refine wp_seq ?_
  refine wp_seq (rg_seq FF1 MM1 [o_, t_ (.bool true), o_] [5, 4, 0, 1, 12] (fun Kt => CallP Try.prog 29 [iN k] [] (.bool true) ∧ Kt [(12, .bool false), (5, iN 0), (4, .slice none 0 0), (0, iN k), (1, sB X)] []) (by kernel_rfl) (fun _ => by kernel_rfl) (⟨(callP_of en_maysz (maysz_yes k (by omega) (by omega)) _), fun ac2 wd2 FF2 MM2 => then_n ?_⟩))
  refine wp_cond_false (FF2.ev 0 rfl) ?_
  refine wp_skip ?_
  refine then_n ?_
  refine wp_seq ?_
  refine wp_seq (rg_seq FF2 MM2 [o_, t_ (iN X.length), o_] [5, 4, 0, 1, 15] (fun Kt => iN ((bs X).size) = iN X.length ∧ Kt [(15, .bool (decide (X.length < 2))), (5, iN 0), (4, .slice none 0 0), (0, iN k), (1, sB X)] []) (by kernel_rfl) (fun _ => by kernel_rfl) (⟨(vI (bs_size _)), fun ac3 wd3 FF3 MM3 => then_n ?_⟩))
  by_cases hs15 : X.length < 2
  · refine wp_cond_true ((FF3.ev 0 rfl).trans (dec_t hs15)) ?_
    refine wp_seq (rg_seq FF3 MM3 [o_, o_] [5, 4, 0, 1] (fun Kt => Kt [(5, iN 5), (4, .slice none 0 0), (0, iN k), (1, sB X)] []) (by kernel_rfl) (fun _ => by kernel_rfl) (fun ac4 wd4 FF4 MM4 => then_n ?_))
    refine wp_ret ?_
    repeat first | refine then_ret ?_ | refine inb_ret ?_
    exact (ret_tup2 FF4 1 0 Try.results22 rfl rfl ⟨rfl, MM4.below⟩)
  · refine wp_cond_false ((FF3.ev 0 rfl).trans (dec_f hs15)) ?_
    refine wp_skip ?_
    refine then_n ?_
    refine wp_seq (rg_draw FF3 MM3 [.inl (sB X), .inl (iB (X.getD 0 0)), .inl (iN (X.getD 0 0)), .inl (sB X), .inl (iB (X.getD 1 0)), .inl (iN (X.getD 1 0)), .inl (iN ((X.getD 1 0) * 256)), .inl (iN m), .inl (iN m)] [] [o_, t_ (iB (X.getD 0 0)), w_ 1, o_, t_ (iB (X.getD 1 0)), w_ 1, o_, t_ (iN m), o_] [] [5, 4, 0, 1, 6] (fun nb => [0 < (bs X).size, (nl (bs X)).getD 0 0 = X.getD 0 0, (X.getD 0 0) < 9223372036854775808, 1 < (bs X).size, (nl (bs X)).getD 1 0 = X.getD 1 0, (X.getD 1 0) < 9223372036854775808, (X.getD 1 0) * 256 < 9223372036854775808, 8 ≤ 64, (X.getD 0 0) < 9223372036854775808, ((X.getD 1 0) * 256) < 9223372036854775808, iN ((X.getD 0 0) ||| ((X.getD 1 0) * 256)) = iN m]) (fun nb Kt => Kt [(6, iN m), (5, iN 0), (4, .slice none 0 0), (0, iN k), (1, sB X)] []) (by kernel_rfl) (by kernel_rfl) (by kernel_rfl) (fun _ => by kernel_rfl) (fun _ _ => by kernel_rfl) trivial (fun nb => ⟨(by simp only [bs_size]; omega), (byte_bs hX _), (by have := hX 0; omega), (by simp only [bs_size]; omega), (byte_bs hX _), (by have := hX 1; omega), (by have := hX 1; omega), (by decide), (by have := hX 0; omega), (by have := hX 1; omega), (vI ((or_shl 8 (hX 0)).trans hm)), trivial⟩) (fun nb => fun ac5 wd5 FF5 MM5 => then_n ?_))
    refine wp_seq (rg_seq FF5 MM5 [o_, t_ (sB (X.drop 2)), o_] [6, 5, 4, 0, 1, 7] (fun Kt => 2 ≤ (bs X).size ∧ 0 ≤ (bs X).size ∧ Value.string ((bs X).extract 2 (bs X).size) = sB (X.drop 2) ∧ Kt [(7, sB (X.drop 2)), (6, iN m), (5, iN 0), (4, .slice none 0 0), (0, iN k), (1, sB X)] []) (by kernel_rfl) (fun _ => by kernel_rfl) (⟨(by simp only [bs_size]; omega), (Nat.zero_le _), (vS2 (bs_from _ _)), fun ac6 wd6 FF6 MM6 => then_n ?_⟩))
    refine wp_seq ?_
    by_cases h64 : m > 64
    · skip
      refine wp_seq (rg_seq FF6 MM6 [o_, w_ 2, o_, o_, o_, o_, o_, o_, o_, o_] [7, 6, 5, 4, 0, 1, 35] (fun Kt => m > 64 ∧ Kt [(35, .bool true), (7, sB (X.drop 2)), (6, iN m), (5, iN 0), (4, .slice none 0 0), (0, iN k), (1, sB X)] []) (by kernel_rfl) (fun _ => by kernel_rfl) (⟨h64, fun ac7 wd7 FF7 MM7 => then_n ?_⟩))
      refine wp_cond_true (FF7.ev 0 rfl) ?_
      refine wp_seq (rg_seq FF7 MM7 [o_, o_] [7, 6, 5, 4, 0, 1] (fun Kt => Kt [(5, iN 5), (4, .slice none 0 0), (7, sB (X.drop 2)), (6, iN m), (0, iN k), (1, sB X)] []) (by kernel_rfl) (fun _ => by kernel_rfl) (fun ac8 wd8 FF8 MM8 => then_n ?_))
      refine wp_ret ?_
      repeat first | refine then_ret ?_ | refine inb_ret ?_
      exact (ret_tup2 FF8 1 0 Try.results22 rfl rfl ⟨rfl, MM8.below⟩)
    · skip
      refine wp_seq (rg_seq FF6 MM6 [o_, w_ 3, o_, o_, t_ (iN ((X.drop 2).length)), o_, o_, o_, w_ 2, o_] [7, 6, 5, 4, 0, 1, 35] (fun Kt => ¬ (m > 64) ∧ iN ((bs (X.drop 2)).size) = iN ((X.drop 2).length) ∧ m * k < 9223372036854775808 ∧ ((X.drop 2).length) ≠ (m * k) ∧ Kt [(35, .bool true), (7, sB (X.drop 2)), (6, iN m), (5, iN 0), (4, .slice none 0 0), (0, iN k), (1, sB X)] []) (by kernel_rfl) (fun _ => by kernel_rfl) (⟨h64, (vI (bs_size _)), (mul_fit (by omega) h2), (fun h => hL (isL_of (by omega) hm (by omega) h)), fun ac9 wd9 FF9 MM9 => then_n ?_⟩))
      refine wp_cond_true (FF9.ev 0 rfl) ?_
      refine wp_seq (rg_seq FF9 MM9 [o_, o_] [7, 6, 5, 4, 0, 1] (fun Kt => Kt [(5, iN 5), (4, .slice none 0 0), (7, sB (X.drop 2)), (6, iN m), (0, iN k), (1, sB X)] []) (by kernel_rfl) (fun _ => by kernel_rfl) (fun ac10 wd10 FF10 MM10 => then_n ?_))
      refine wp_ret ?_
      repeat first | refine then_ret ?_ | refine inb_ret ?_
      exact (ret_tup2 FF10 1 0 Try.results22 rfl rfl ⟨rfl, MM10.below⟩)
set_option maxRecDepth 100000 in
theorem items_badw (X : List Nat) (z : Int) (hz : z < 1 ∨ z > 256) (w0 : World) :
    Calls Try.prog 22 #[.int .i64 z, sB X] w0 fun e w' => e = .returned (.tuple #[.slice none 0 0, iN 1]) ∧ Below w0.heap.size w0 w' := by
  refine enter_fr Try.func22 rfl Try.ntmps22 (by simp) fun ac (FF : Fr 58 ac [(0, .int .i64 (z : Int)), (1, sB X)]) => ?_
  have MM := MemS.start w0
  refine wp_seq (rg_seq FF MM [o_, o_] [0, 1, 4, 5] (fun Kt => Kt [(5, iN 0), (4, .slice none 0 0), (0, .int .i64 (z : Int)), (1, sB X)] []) (by kernel_rfl) (fun _ => by kernel_rfl) (fun ac1 wd1 FF1 MM1 => then_n ?_))
  refine wp_seq ?_
  refine wp_seq (rg_seq FF1 MM1 [o_, t_ (.bool false), o_] [5, 4, 0, 1, 12] (fun Kt => CallP Try.prog 29 [.int .i64 (z : Int)] [] (.bool false) ∧ Kt [(12, .bool true), (5, iN 0), (4, .slice none 0 0), (0, .int .i64 (z : Int)), (1, sB X)] []) (by kernel_rfl) (fun _ => by kernel_rfl) (⟨(callP_of en_maysz (maysz_no z hz) _), fun ac2 wd2 FF2 MM2 => then_n ?_⟩))
  refine wp_cond_true (FF2.ev 0 rfl) ?_
  refine wp_seq (rg_seq FF2 MM2 [o_, o_] [5, 4, 0, 1] (fun Kt => Kt [(5, iN 1), (4, .slice none 0 0), (0, .int .i64 (z : Int)), (1, sB X)] []) (by kernel_rfl) (fun _ => by kernel_rfl) (fun ac3 wd3 FF3 MM3 => then_n ?_))
  refine wp_ret ?_
  repeat first | refine then_ret ?_ | refine inb_ret ?_
  exact (ret_tup2 FF3 1 0 Try.results22 rfl rfl ⟨rfl, MM3.below⟩)
theorem items_any (X : List Nat) (hX : ∀ i, X.getD i 0 < 256) (z : Int) (w0 : World) : Calls Try.prog 22 #[.int .i64 z, sB X] w0 fun e w' => ∃ v, e = .returned (.tuple #[.slice (pOf v) (itemsN z X) (cOf v), iN (itemsE z X)]) ∧ Below w0.heap.size w0 w' ∧ RowNew w0.heap.size w' (pOf v) (itemsN z X) (fun k9 => sB (itemAt z X k9)) ∧ (itemsN z X) ≤ cOf v := by
  by_cases hz : z < 1 ∨ z > 256
  · rw [itemsE_bad hz, itemsN_bad hz]
    exact (items_badw X z hz w0).mono fun e w' ⟨h1, h2⟩ => ⟨.slice none 0 0, h1, h2, .inl rfl, Nat.le_refl _⟩
  · obtain ⟨k, rfl⟩ := Int.eq_ofNat_of_zero_le (a := z) (by omega)
    by_cases hL : IsL k X
    · rw [itemsE_ok (by omega) (by omega) hL, itemsN_ok (by omega) (by omega) hL]
      exact items_okw X hX k (by omega) (by omega) hL _ rfl w0
    · rw [itemsE_no (by omega) (by omega) hL, itemsN_no (by omega) (by omega) hL]
      exact (items_now X hX k (by omega) (by omega) hL w0).mono fun e w' ⟨h1, h2⟩ => ⟨.slice none 0 0, h1, h2, .inl rfl, Nat.le_refl _⟩
end Go.Proofs.Ytjpfdmkbmpecnaa
namespace Go.Proofs.Ytjpfdmkbmpecnaa
open Go.RowKit
theorem en_wakes : Enters Try.prog 8 := fun args w => by simp [go_sem]
theorem one3 : ∀ i, i < 1 → ([[97, 98, 99]].getD i []).length = 3 := fun i hi => by
  obtain rfl : i = 0 := by omega
  rfl
theorem is3 : IsL 3 [1, 0, 97, 98, 99] := ⟨by decide, rfl, by decide, rfl⟩
theorem it3 : ∀ i : Fin 1, itemAt ((3 : Nat) : Int) [1, 0, 97, 98, 99] i.val = [[97, 98, 99]].getD i.val [] := by decide
set_option maxRecDepth 100000 in
theorem wakes_any (O : Blks) (hD : Distinct O)  (w0 : World) (H : Has w0 O) :
    Calls Try.prog 8 #[] w0 fun e w' => e = .returned (.bool true) ∧ Below w0.heap.size w0 w' := by
  refine enter_fr Try.func8 rfl Try.ntmps8 (by simp) fun ac (FF : Fr 102 ac []) => ?_
  have MM : MemS (fun k => k < w0.heap.size ∧ ∀ x ∈ O, x.1 ≠ k) w0 w0 O [] := MemS.startN H hD
  refine wp_seq (rg_seq FF MM [o_] [0] (fun Kt => Kt [(0, .bool false)] O) (by kernel_rfl) (fun _ => by kernel_rfl) (fun ac1 wd1 FF1 MM1 => then_n ?_))
  refine wp_seq (rg_seq FF1 MM1 [t_ (.tuple #[sB (bodyN ([97, 98])), iN 0]), o_, o_, o_, o_, o_] [0, 1, 2] (fun Kt => CallP Try.prog 9 [sB ([97, 98])] [] (.tuple #[sB (bodyN ([97, 98])), iN 0]) ∧ Kt [(2, iN 0), (1, sB (bodyN ([97, 98]))), (0, .bool false)] O) (by kernel_rfl) (fun _ => by kernel_rfl) (⟨(callP_of en_body (fun w => by have h0 := body_any ([97, 98]) (lit_lt (by kernel_rfl)) w; rw [bodyR_ok (by decide)] at h0; exact h0) _), fun ac2 wd2 FF2 MM2 => then_n ?_⟩))
  refine wp_seq (rg_seq FF2 MM2 [o_, t_ (.tuple #[sB ([97, 98]), .bool true]), o_, o_, o_, o_, o_] [2, 1, 0, 3, 4] (fun Kt => CallP Try.prog 11 [sB (bodyN ([97, 98]))] [] (.tuple #[sB ([97, 98]), .bool true]) ∧ Kt [(4, .bool true), (3, sB ([97, 98])), (2, iN 0), (1, sB (bodyN ([97, 98]))), (0, .bool false)] O) (by kernel_rfl) (fun _ => by kernel_rfl) (⟨(callP_of en_text (fun w => by have h0 := text_any (bodyN ([97, 98])) (bodyN_lt (lit_lt (by kernel_rfl)) (by decide)) w; rw [text_body (X := [97, 98]) (by decide)] at h0; exact h0) _), fun ac3 wd3 FF3 MM3 => then_n ?_⟩))
  refine wp_seq (rg_seq FF3 MM3 [o_, u_ 1 (.tuple #[sB ([1, 0, 97, 98, 99]), iN 0]), o_, o_, o_, o_, o_] [4, 3, 2, 1, 0, 5, 6] (fun Kt => ∀ b1, CallP Try.prog 20 [iN 3, .slice (some ⟨b1, 0, none⟩) 1 1] ((b1, .cells (fc 1 (fun k9 => sB ([[97, 98, 99]].getD k9 []))) 9) :: O) (.tuple #[sB ([1, 0, 97, 98, 99]), iN 0]) ∧ Kt [(6, iN 0), (5, sB ([1, 0, 97, 98, 99])), (4, .bool true), (3, sB ([97, 98])), (2, iN 0), (1, sB (bodyN ([97, 98]))), (0, .bool false)] ((b1, .cells (fc 1 (fun k9 => sB ([[97, 98, 99]].getD k9 []))) 9) :: O)) (by kernel_rfl) (fun _ => by kernel_rfl) (fun b1 => ⟨⟨en_list, fun w Hw => by have h0 := list_w (some ⟨b1, 0, none⟩) 1 1 (fun k9 => [[97, 98, 99]].getD k9 []) (by omega) (by omega) ((3 : Nat) : Int) w (rowIn_fc (Hw 0 _ rfl)); rw [listR_ok (k := 3) (by decide) (by decide) (by decide) one3] at h0; exact h0⟩, fun ac4 wd4 FF4 MM4 => then_n ?_⟩))
  refine wp_seq (wp_region_list ?_)
  refine rg_part 1 FF4 MM4 [o_] [6, 5, 4, 3, 2, 1, 0, 29] (fun Kt => Kt [(29, sB ([1, 0, 97, 98, 99])), (6, iN 0), (5, sB ([1, 0, 97, 98, 99])), (4, .bool true), (3, sB ([97, 98])), (2, iN 0), (1, sB (bodyN ([97, 98]))), (0, .bool false)] ((b1, .cells (fc 1 (fun k9 => sB ([[97, 98, 99]].getD k9 []))) 9) :: O)) (by kernel_rfl) (fun _ => by kernel_rfl) (fun ac5 wd5 FF5 MM5 => ?_)
  refine st_callE [6, 5, 4, 3, 2, 1, 0, 30] FF5 (d := 30) (mk := fun v => .tuple #[.slice (pOf v) 1 (cOf v), iN 0]) en_items rfl rfl (by have h0 := items_any ([1, 0, 97, 98, 99]) (lit_lt (by kernel_rfl)) ((3 : Nat) : Int) wd5; rw [itemsE_ok (k := 3) (by decide) (by decide) is3, itemsN_ok (k := 3) (by decide) (by decide) is3] at h0; exact h0) rfl (by kernel_rfl) (by decide) fun ac9 wd9 lv8 (FF9 : Fr 102 ac9 [(30, .tuple #[.slice (pOf lv8) 1 (cOf lv8), iN 0]), (6, iN 0), (5, sB ([1, 0, 97, 98, 99])), (4, .bool true), (3, sB ([97, 98])), (2, iN 0), (1, sB (bodyN ([97, 98]))), (0, .bool false)]) hr10 => ?_
  have hcp_lv8 := hr10.2.2
  have hrw7 := And.intro hr10.1 hr10.2.1
  obtain ⟨O11, MM120, hR13, hs14⟩ := MemS.addRow (K := [(b1, .cells (fc 1 (fun k9 => sB ([[97, 98, 99]].getD k9 []))) 9)]) (O := O) MM5 hrw7.1 hrw7.2
  have MM12 : MemS (fun k => k < w0.heap.size ∧ ∀ x ∈ O, x.1 ≠ k) w0 wd9 ((b1, .cells (fc 1 (fun k9 => sB ([[97, 98, 99]].getD k9 []))) 9) :: O11) [] := MM120
  refine rg_part 5 FF9 MM12 [o_, o_, o_, o_, o_] [6, 5, 4, 3, 2, 1, 0, 7, 8] (fun Kt => Kt [(8, iN 0), (7, .slice (pOf lv8) 1 (cOf lv8)), (6, iN 0), (5, sB ([1, 0, 97, 98, 99])), (4, .bool true), (3, sB ([97, 98])), (2, iN 0), (1, sB (bodyN ([97, 98]))), (0, .bool false)] ((b1, .cells (fc 1 (fun k9 => sB ([[97, 98, 99]].getD k9 []))) 9) :: O11)) (by kernel_rfl) (fun _ => by kernel_rfl) (fun ac15 wd15 FF15 MM15 => ?_)
  refine wpl_nil (then_n ?_)
  refine wp_seq (rg_seq FF15 MM15 [o_, n_ (.slice none 36 36) (.cells (cn .u8 (List.replicate 36 0)) 5), l_ 0 (sB (List.replicate 36 0)), t_ (.tuple #[sB (([5, 0, 0, 0, 0, 0, 0, 0, 0, 0, 0, 0, 0, 0, 0, 0]) ++ (List.replicate 36 0)), iN 0]), o_, o_, o_, o_, o_] [8, 7, 6, 5, 4, 3, 2, 1, 0, 9, 10] (fun Kt => RunN Try.prog [(34, .agg (cn .u8 ([5, 0, 0, 0, 0, 0, 0, 0, 0, 0, 0, 0, 0, 0, 0, 0]))), (8, iN 0), (7, .slice (pOf lv8) 1 (cOf lv8)), (6, iN 0), (5, sB ([1, 0, 97, 98, 99])), (4, .bool true), (3, sB ([97, 98])), (2, iN 0), (1, sB (bodyN ([97, 98]))), (0, .bool false)] ((b1, .cells (fc 1 (fun k9 => sB ([[97, 98, 99]].getD k9 []))) 9) :: O11) (opAt Try.f8 5 1) (mkOf (.slice none 36 36)) (.cells (cn .u8 (List.replicate 36 0)) 5) ∧ ∀ b2, b2 = b2 ∧ StrAt (cn .u8 (List.replicate 36 0)) 0 36 (bs (List.replicate 36 0)) ∧ CallP Try.prog 13 [.agg (cn .u8 ([5, 0, 0, 0, 0, 0, 0, 0, 0, 0, 0, 0, 0, 0, 0, 0])), sB (List.replicate 36 0)] [] (.tuple #[sB (([5, 0, 0, 0, 0, 0, 0, 0, 0, 0, 0, 0, 0, 0, 0, 0]) ++ (List.replicate 36 0)), iN 0]) ∧ Kt [(10, iN 0), (9, sB (([5, 0, 0, 0, 0, 0, 0, 0, 0, 0, 0, 0, 0, 0, 0, 0]) ++ (List.replicate 36 0))), (8, iN 0), (7, .slice (pOf lv8) 1 (cOf lv8)), (6, iN 0), (5, sB ([1, 0, 97, 98, 99])), (4, .bool true), (3, sB ([97, 98])), (2, iN 0), (1, sB (bodyN ([97, 98]))), (0, .bool false)] ((b2, .cells (cn .u8 (List.replicate 36 0)) 5) :: (b1, .cells (fc 1 (fun k9 => sB ([[97, 98, 99]].getD k9 []))) 9) :: O11)) (by kernel_rfl) (fun _ => by kernel_rfl) (⟨(make_ok (t := 40) (e := 5) (p := (.const (iN 36))) (q := (.const (iN 36))) (by kernel_rfl) rfl rfl Try.underlying40 (by kernel_rfl) (by decide)), fun b2 => ⟨rfl, (str_all (List.length_replicate ..) (rep0_lt)), (callP_of en_request (fun w => by have h0 := request_any ([5, 0, 0, 0, 0, 0, 0, 0, 0, 0, 0, 0, 0, 0, 0, 0]) rfl (lit_lt (by kernel_rfl)) (List.replicate 36 0) w; rw [requestR_ok (List.length_replicate ..)] at h0; exact h0) _), fun ac16 wd16 FF16 MM16 => then_n ?_⟩⟩))
  refine wp_seq (rg_seq FF16 MM16 [o_, t_ (.tuple #[.agg (cn .u8 ([5, 0, 0, 0, 0, 0, 0, 0, 0, 0, 0, 0, 0, 0, 0, 0])), sB (List.replicate 36 0), .bool true]), o_, o_, o_, o_, o_, b_ 0, o_, o_] [10, 8, 7, 6, 5, 4, 3, 2, 1, 0, 11, 12, 13] (fun Kt => CallP Try.prog 14 [sB (([5, 0, 0, 0, 0, 0, 0, 0, 0, 0, 0, 0, 0, 0, 0, 0]) ++ (List.replicate 36 0))] [] (.tuple #[.agg (cn .u8 ([5, 0, 0, 0, 0, 0, 0, 0, 0, 0, 0, 0, 0, 0, 0, 0])), sB (List.replicate 36 0), .bool true]) ∧ ∀ b3, b3 = b3 ∧ (cn .u8 (List.replicate 16 0)).size = 16 ∧ (cn .u8 ([5, 0, 0, 0, 0, 0, 0, 0, 0, 0, 0, 0, 0, 0, 0, 0])).size = 16 ∧ (cn .u8 ([5, 0, 0, 0, 0, 0, 0, 0, 0, 0, 0, 0, 0, 0, 0, 0])).all (·.oneCell') = true ∧ (0, 0).2 = 0 ∧ Kt [(13, .bool true), (12, sB (List.replicate 36 0)), (11, pT b3), (10, iN 0), (8, iN 0), (7, .slice (pOf lv8) 1 (cOf lv8)), (6, iN 0), (5, sB ([1, 0, 97, 98, 99])), (4, .bool true), (3, sB ([97, 98])), (2, iN 0), (1, sB (bodyN ([97, 98]))), (0, .bool false)] ((b3, .cells (cn .u8 ([5, 0, 0, 0, 0, 0, 0, 0, 0, 0, 0, 0, 0, 0, 0, 0])) 24) :: (b2, .cells (cn .u8 (List.replicate 36 0)) 5) :: (b1, .cells (fc 1 (fun k9 => sB ([[97, 98, 99]].getD k9 []))) 9) :: O11)) (by kernel_rfl) (fun _ => by kernel_rfl) (⟨(callP_of en_parts (fun w => by have h0 := parts_any (([5, 0, 0, 0, 0, 0, 0, 0, 0, 0, 0, 0, 0, 0, 0, 0]) ++ (List.replicate 36 0)) (app_lt (lit_lt (by kernel_rfl)) (rep0_lt)) w; rw [parts_app (D := [5, 0, 0, 0, 0, 0, 0, 0, 0, 0, 0, 0, 0, 0, 0, 0]) (B := List.replicate 36 0) rfl (List.length_replicate ..)] at h0; exact h0) _), fun b3 => ⟨rfl, ((cn_size _ _).trans (List.length_replicate ..)), ((cn_size _ _).trans rfl), (cn_one _ _), rfl, fun ac17 wd17 FF17 MM17 => then_n ?_⟩⟩))
  refine wp_seq (rg_seq FF17 MM17 [o_, w_ 2, o_, o_, t_ (iN ((bodyN ([97, 98])).length)), w_ 2, o_, o_, o_, w_ 2, o_, o_, o_, o_, o_, o_, w_ 2, o_, o_, o_, w_ 2, o_, o_, o_, w_ 2, o_, o_, o_, o_, u_ 1 (.bool true), o_, o_, o_, w_ 2, o_, o_, b_ 1, o_, f_ (.bool true), o_, o_, o_, t_ (iN ((List.replicate 36 0).length)), w_ 2, o_, o_, o_, o_, o_, t_ (iN 196), w_ 2, o_, o_, t_ (iN 52), w_ 2, o_, o_] [11, 5, 1, 0] (fun Kt => 0 = 0 ∧ iN ((bs (bodyN ([97, 98]))).size) = iN ((bodyN ([97, 98])).length) ∧ ((bodyN ([97, 98])).length) = 20 ∧ bs ([97, 98]) = bs ([97, 98]) ∧ 0 = 0 ∧ bs ([1, 0, 97, 98, 99]) = bs ([1, 0, 97, 98, 99]) ∧ 0 = 0 ∧ ∀ b4, CallP Try.prog 24 [.slice (pOf lv8) 1 (cOf lv8), .slice (some ⟨b4, 0, none⟩) 1 1] ((b4, .cells (fc 1 (fun k9 => sB ([[97, 98, 99]].getD k9 []))) 9) :: (b3, .cells (cn .u8 ([5, 0, 0, 0, 0, 0, 0, 0, 0, 0, 0, 0, 0, 0, 0, 0])) 24) :: (b2, .cells (cn .u8 (List.replicate 36 0)) 5) :: (b1, .cells (fc 1 (fun k9 => sB ([[97, 98, 99]].getD k9 []))) 9) :: O11) (.bool true) ∧ 0 = 0 ∧ b3 = b3 ∧ (cn .u8 ([5, 0, 0, 0, 0, 0, 0, 0, 0, 0, 0, 0, 0, 0, 0, 0])).size = 16 ∧ RunV Try.prog [(83, .agg (cn .u8 ([5, 0, 0, 0, 0, 0, 0, 0, 0, 0, 0, 0, 0, 0, 0, 0]))), (82, .agg (cn .u8 ([5, 0, 0, 0, 0, 0, 0, 0, 0, 0, 0, 0, 0, 0, 0, 0]))), (81, .bool true), (80, .bool true), (79, .bool true), (78, iN 0), (77, .bool true), (76, .bool true), (75, .bool true), (74, .slice (some ⟨b4, 0, none⟩) 1 1), (73, .slice (pOf lv8) 1 (cOf lv8)), (72, .bool true), (71, .bool true), (70, .bool true), (69, iN 0), (68, .bool true), (67, .bool true), (66, .bool true), (65, sB ([1, 0, 97, 98, 99])), (64, .bool true), (63, .bool true), (62, .bool true), (61, iN 0), (60, .bool true), (59, .bool true), (58, .bool true), (57, .bool true), (56, .bool true), (55, .bool true), (54, sB ([97, 98])), (53, .bool true), (52, .bool true), (51, .bool true), (50, iN ((bodyN ([97, 98])).length)), (49, sB (bodyN ([97, 98]))), (48, .bool true), (47, .bool true), (46, iN 0), (13, .bool true), (12, sB (List.replicate 36 0)), (11, pT b3), (10, iN 0), (8, iN 0), (7, .slice (pOf lv8) 1 (cOf lv8)), (6, iN 0), (5, sB ([1, 0, 97, 98, 99])), (4, .bool true), (3, sB ([97, 98])), (2, iN 0), (1, sB (bodyN ([97, 98]))), (0, .bool false)] ((b4, .cells (fc 1 (fun k9 => sB ([[97, 98, 99]].getD k9 []))) 9) :: (b3, .cells (cn .u8 ([5, 0, 0, 0, 0, 0, 0, 0, 0, 0, 0, 0, 0, 0, 0, 0])) 24) :: (b2, .cells (cn .u8 (List.replicate 36 0)) 5) :: (b1, .cells (fc 1 (fun k9 => sB ([[97, 98, 99]].getD k9 []))) 9) :: O11) (opAt Try.f8 7 38) (.bool true) ∧ iN ((bs (List.replicate 36 0)).size) = iN ((List.replicate 36 0).length) ∧ ((List.replicate 36 0).length) = 36 ∧ CallP Try.prog 16 [iN 1] [] (iN 196) ∧ 196 = 196 ∧ CallP Try.prog 18 [iN 3] [] (iN 52) ∧ 52 = 52 ∧ Kt [(0, .bool true), (11, pT b3), (5, sB ([1, 0, 97, 98, 99])), (1, sB (bodyN ([97, 98])))] ((b4, .cells (fc 1 (fun k9 => sB ([[97, 98, 99]].getD k9 []))) 9) :: (b3, .cells (cn .u8 ([5, 0, 0, 0, 0, 0, 0, 0, 0, 0, 0, 0, 0, 0, 0, 0])) 24) :: (b2, .cells (cn .u8 (List.replicate 36 0)) 5) :: (b1, .cells (fc 1 (fun k9 => sB ([[97, 98, 99]].getD k9 []))) 9) :: O11)) (by kernel_rfl) (fun _ => by kernel_rfl) (⟨(by decide), (vI (bs_size _)), rfl, rfl, (by decide), rfl, (by decide), fun b4 => ⟨⟨en_ktexts, fun w Hw => ktexts_w (pOf lv8) 1 (cOf lv8) (some ⟨b4, 0, none⟩) 1 (fun k9 => itemAt ((3 : Nat) : Int) ([1, 0, 97, 98, 99]) k9) (fun k9 => [[97, 98, 99]].getD k9 []) (by omega) (fun i hi => it3 ⟨i, hi⟩) w (hR13.at (Has.tl (Has.tl (Has.tl (Has.tl Hw))))) (rowIn_fc (Hw 0 _ rfl))⟩, (by decide), rfl, ((cn_size _ _).trans rfl), (eqA_ok (t := 24) (t' := 24) (e := 5) (m := 16) (k := .u8) (x := (.tmp 82)) (y := (.tmp 83)) (by kernel_rfl) Try.underlying24 Try.underlying5 (by kernel_rfl) (by kernel_rfl) (by kernel_rfl) rfl rfl rfl rfl (by rfl)), (vI (bs_size _)), (List.length_replicate ..), (callP_of en_onion (onion_1) _), (by decide), (callP_of en_reply (reply_3) _), (by decide), fun ac18 wd18 FF18 MM18 => then_n ?_⟩⟩))
  refine wp_ret ?_
  repeat first | refine then_ret ?_ | refine inb_ret ?_
  exact (ret_fr FF18 0 Try.results8 rfl ⟨rfl, MM18.belowN H (fun _ hx => List.mem_cons_of_mem _ (List.mem_cons_of_mem _ (List.mem_cons_of_mem _ (List.mem_cons_of_mem _ (hs14 _ hx)))))⟩)
theorem wakes_w (w : World) : Calls Try.prog 8 #[] w fun e w' => e = .returned (.bool true) ∧ Below w.heap.size w w' := wakes_any [] trivial w (fun i y hy => by simp at hy)
end Go.Proofs.Ytjpfdmkbmpecnaa
