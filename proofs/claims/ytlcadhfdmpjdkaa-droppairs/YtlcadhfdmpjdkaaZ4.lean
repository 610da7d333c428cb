/- Several texts in one: The law DropPairs. Rows that come in: of requests. -/
import Derived.Test.YtlcadhfdmpjdkaaZ3
import Derived.Test.YtlcadhfdmpjdkaaZ2
import Derived.ChangeMaps5
import Derived.SizedLaws
import Derived.SliceStrings
namespace Go.Proofs.Ytlcadhfdmpjdkaa
open Go.RowKit
set_option maxHeartbeats 4000000 in
set_option maxRecDepth 100000 in
theorem pairs_O (O : Blks) (hD : Distinct O) (p : Option Addr) (n cp : Nat) (fN fB : Nat → Nat) (fR : Nat → List Nat) (hN8 : ∀ i, fN i < 256) (hB8 : ∀ i, fB i < 256) (hR8 : ∀ i j, (fR i).getD j 0 < 256) (hA : RowO O p (n * 3) (madeV fN fB fR)) (w0 : World) (H : Has w0 O) :
    Calls Try.prog 4 #[.slice p n cp] w0 fun e w' => e = .returned (.bool true) ∧ Below w0.heap.size w0 w' := by
  refine enter_fr Try.func4 rfl Try.ntmps4 (by simp) fun ac (FF : Fr 151 ac [(0, .slice p n cp)]) => ?_
  have MM : MemS (fun k => k < w0.heap.size ∧ ∀ x ∈ O, x.1 ≠ k) w0 w0 O [] := MemS.startN H hD
  refine wp_seq (rg_c FF MM [] 3 [] [] (fun _ _ FF1 MM1 => then_n ?_))
  refine wp_seq ?_
  by_cases hP : FairP n fR
  · skip
    obtain ⟨s, hsd⟩ : ∃ s, s = reqM fN fB fR := ⟨_, rfl⟩
    have hs : ∀ i, i < n → ∀ j, (s i).getD j 0 < 256 := fun i _ => hsd ▸ reqM_lt (hN8 i) (hB8 i) (hR8 i)
    have hn40 := hP.1
    refine wp_seq (rg_c FF1 MM1 [(1, u_ 1 (.bool true))] 3 [13] [] (⟨⟨en_fair, fun w Hw => fair_w p n cp fN fB fR true ⟨fun _ => hP, fun _ => rfl⟩ w (hA.at Hw)⟩, fun _ _ FF2 MM2 => then_n ?_⟩))
    refine wp_cond_false (FF2.ev 0 rfl) ?_
    refine wp_skip ?_
    refine then_n ?_
    refine wp_seq (wp_region_list ?_)
    refine rp_c 1 FF2 MM2 [] 3 [15] [] (fun _ wd3 FF3 MM3 => ?_)
    refine st_callE [2, 0, 16] FF3 (d := 16) (mk := fun v => .slice (pOf v) n (cOf v)) en_req rfl rfl (by have h0 := req_w p n cp fN fB fR hN8 hB8 hR8 (by omega) wd3 (hA.at MM3.hasL); rw [← hsd] at h0; exact h0) rfl (by kernel_rfl) (by decide) fun ac6 wd6 lv5 FF6 hr7 => ?_
    obtain ⟨O8, MM90, hR10, hs11⟩ := MemS.addRow (K := []) (O := O) MM3 hr7.1 hr7.2
    have MM9 : MemS (fun k => k < w0.heap.size ∧ ∀ x ∈ O, x.1 ≠ k) w0 wd6 O8 [] := MM90
    have hk12 := hA.mono hs11
    refine rp_c 1 FF6 MM9 [] 4 [] [] (fun _ _ FF13 MM13 => ?_)
    refine wpl_nil (then_n ?_)
    refine wp_seq (wp_region_list ?_)
    refine rp_c 1 FF13 MM13 [] 18 [] [] (fun _ _ FF14 MM14 => ?_)
    refine st_callE [3, 2, 0, 18] FF14 (d := 18) (mk := fun v => .slice (pOf v) n (cOf v)) en_dm rfl rfl (dm_w (pOf lv5) n (cOf lv5) s (by omega) hs _ (hR10.at MM14.hasL)) rfl (by kernel_rfl) (by decide) fun ac17 wd17 lv16 FF17 hr18 => ?_
    obtain ⟨O19, MM200, hR21, hs22⟩ := MemS.addRow (K := []) (O := O8) MM14 hr18.1 hr18.2
    have MM20 : MemS (fun k => k < w0.heap.size ∧ ∀ x ∈ O, x.1 ≠ k) w0 wd17 O19 [] := MM200
    have hk23 := hk12.mono hs22
    have hk24 := hR10.mono hs22
    have hz25 : ∀ x ∈ O, x ∈ O19 := fun x hx => hs22 x (hs11 x hx)
    refine rp_c 1 FF17 MM20 [] 5 [] [] (fun _ _ FF26 MM26 => ?_)
    refine wpl_nil (then_n ?_)
    refine wp_seq ?_
    refine wp_seq (rg_c FF26 MM26 [(4, w_ 3)] 5 [23] [] (⟨(fun h => h rfl), fun _ _ FF27 MM27 => then_n ?_⟩))
    refine wp_cond_false (FF27.ev 0 rfl) ?_
    refine wp_skip ?_
    refine then_n ?_
    refine wp_seq (rg_c FF27 MM27 [] 6 [] [] (fun _ _ FF28 MM28 => then_n ?_))
    have MMn29 := MM28.rowNil 9 1
    refine wp_seq ?_
    refine wp_seq (rg_c FF28 MMn29 [] 7 [] [] (fun _ _ FF30 MM30 => then_n ?_))
    refine wp_for2 (fun a' w' => ∃ rv : Value, ∃ i : Nat, i ≤ n ∧ Fr 151 a' [(6, iN i), (5, rv), (4, .slice (pOf lv16) n (cOf lv16)), (3, .slice (pOf lv5) n (cOf lv5)), (0, .slice p n cp)] ∧ MemS (fun k => k < w0.heap.size ∧ ∀ x ∈ O, x.1 ≠ k) w0 w' O19 [(rv, 9, 1, i, (fv i (fun k9 => sB (tP s n k9))))]) (fun a' _ => (n - cnt 6 a').toNat) ⟨(.slice none 0 0), 0, Nat.zero_le _, FF30.pick [0, 1, 2, 3, 5], MM30⟩ ?_
    rintro ac31 wd31 ⟨rv, i, hi, FF31, MM31⟩
    have hc := cnt_of (FF31.get 0 rfl)
    refine rg_c FF31 MM31 [] 7 [27] [] (fun _ wd32 FF32 MM32 => ?_)
    by_cases hlt : i < n
    · skip
      refine then_n (.inl ⟨(FF32.ev 0 rfl).trans (dec_t hlt), ?_⟩)
      refine wp_seq ?_
      refine wp_seq (rg_c FF32 MM32 [(2, f_ (.pointer (some ⟨gOf (pOf lv16), oOf (pOf lv16) + i, none⟩))), (0, f_ (sB (mAt s n i))), (0, t_ (iN ((mAt s n i).length))), (0, w_ 3)] 7 [35] [] (⟨(rowX_addr (x := (.tmp 30)) (y := (.tmp 31)) (k := 1) (i := i) (by kernel_rfl) rfl rfl Try.underlying25 (by kernel_rfl) hR21 (by omega) (by omega)), (rowX_load (x := (.tmp 32)) (j := i) (by kernel_rfl) rfl Try.underlying9 rfl hR21 (fun _ hx => hx) (by omega) rfl), (vI (bs_size _)), (fun h => h (mAt_len _ _ _)), fun _ _ FF33 MM33 => then_n ?_⟩))
      refine wp_cond_false (FF33.ev 0 rfl) ?_
      refine wp_skip ?_
      refine then_n ?_
      refine wp_seq ?_
      by_cases hb : (s i).length ≠ 52
      · skip
        refine wp_seq (rg_c FF33 MM33 [(2, f_ (.pointer (some ⟨gOf (pOf lv5), oOf (pOf lv5) + i, none⟩))), (0, f_ (sB (s i))), (0, t_ (iN ((s i).length))), (0, w_ 2)] 7 [41] [] (⟨(rowX_addr (x := (.tmp 36)) (y := (.tmp 37)) (k := 1) (i := i) (by kernel_rfl) rfl rfl Try.underlying25 (by kernel_rfl) hk24 (by omega) (by omega)), (rowX_load (x := (.tmp 38)) (j := i) (by kernel_rfl) rfl Try.underlying9 rfl hk24 (fun _ hx => hx) (by omega) rfl), (vI (bs_size _)), hb, fun _ _ FF34 MM34 => then_n ?_⟩))
        refine wp_cond_true (FF34.ev 0 rfl) ?_
        refine wp_seq ?_
        refine wp_seq (rg_dc 6 FF34 MM34 [(2, f_ (.pointer (some ⟨gOf (pOf lv16), oOf (pOf lv16) + i, none⟩))), (0, f_ (sB (mAt s n i))), (0, t_ (sB (List.replicate 36 0))), (0, w_ 3)] [] 7 [47] [] (⟨(rowX_addr (x := (.tmp 42)) (y := (.tmp 43)) (k := 1) (i := i) (by kernel_rfl) rfl rfl Try.underlying25 (by kernel_rfl) hR21 (by omega) (by omega)), (rowX_load (x := (.tmp 44)) (j := i) (by kernel_rfl) rfl Try.underlying9 rfl hR21 (fun _ hx => hx) (by omega) rfl), (callP_of en_lbox (lbox_any 0 (by decide)) _), (fun h => h (congrArg bs (mAt_bad hb))), fun _ _ FF35 MM35 => then_n ?_⟩))
        refine wp_cond_false (FF35.ev 0 rfl) ?_
        refine wp_skip ?_
        refine then_n ?_
        refine wp_seq (wp_region_list ?_)
        refine rp_c 6 FF35 MM35 [(3, f_ (.pointer (some ⟨gOf (pOf lv5), oOf (pOf lv5) + i, none⟩))), (0, f_ (sB (tP s n i))), (0, s_ 0 (oC #[sB (tP s n i)] 9))] 49 [53] [47] (⟨(rowX_addr (x := (.tmp 49)) (y := (.tmp 50)) (k := 1) (i := i) (by kernel_rfl) rfl rfl Try.underlying25 (by kernel_rfl) hk24 (by omega) (by omega)), (rowX_load (x := (.tmp 51)) (j := i) (by kernel_rfl) rfl Try.underlying9 rfl hk24 (fun _ hx => hx) (by omega) (vS (tP_no hb).symm)), (by kernel_rfl), fun bq => fun _ _ FF36 MM36 => ?_⟩)
        refine st_app [6, 5, 4, 3, 0, 54] FF36 MM36 (d := 54) (s := 48) (x := 53) (Y := [sB (tP s n i)]) (z := sB []) (bb := 16) rfl rfl rfl rfl (lies_lit (MM36.get 0 rfl)) (fun u hu => by rw [List.mem_singleton.1 hu]; rfl) (by decide) Try.underlying25 (by kernel_rfl) rfl (by decide) (by simp only [maxLen]; omega) (by omega) rfl rfl (by decide) fun ac38 wd38 rv37 FF38 MM38 => ?_
        have MMr39 : MemS (fun k => k < w0.heap.size ∧ ∀ x ∈ O, x.1 ≠ k) w0 wd38 ((bq, oC #[sB (tP s n i)] 9) :: O19) [(rv37, 9, 1, (i + 1), (fv (i + 1) (fun k9 => sB (tP s n k9))))] := by rw [show (fv (i + 1) (fun k9 => sB (tP s n k9))) = ((fv i (fun k9 => sB (tP s n k9))) ++ [sB (tP s n i)]) from (fv_succ _ _).symm]; exact MM38
        refine rp_c 1 FF38 MMr39 [] 7 [] [] (fun _ _ FF40 MM40 => ?_)
        refine wpl_nil (then_n ?_)
        refine wp_exit ?_
        repeat first | refine then_exit ?_ | refine (inb_other (by decide) _ _ _).2 ?_ | refine (inb_exit _ _ _ _).2 ?_
        refine then_n ?_
        refine rg_c FF40 MM40 [] 7 [] [] (⟨by omega, fun _ _ FF41 MM41 => ?_⟩)
        have hd := cnt_of (FF41.get 0 rfl)
        refine then_n ⟨⟨rv37, i + 1, by omega, FF41.pick [0, 1, 2, 3, 4], (MM41.dropAt 0)⟩, ?_⟩
        rw [hc, hd]; omega
      · skip
        have hl : (s i).length = 52 := Decidable.of_not_not hb
        refine wp_seq (rg_c FF33 MM33 [(2, f_ (.pointer (some ⟨gOf (pOf lv5), oOf (pOf lv5) + i, none⟩))), (0, f_ (sB (s i))), (0, t_ (iN ((s i).length))), (0, w_ 3)] 7 [41] [] (⟨(rowX_addr (x := (.tmp 36)) (y := (.tmp 37)) (k := 1) (i := i) (by kernel_rfl) rfl rfl Try.underlying25 (by kernel_rfl) hk24 (by omega) (by omega)), (rowX_load (x := (.tmp 38)) (j := i) (by kernel_rfl) rfl Try.underlying9 rfl hk24 (fun _ hx => hx) (by omega) rfl), (vI (bs_size _)), hb, fun _ _ FF42 MM42 => then_n ?_⟩))
        refine wp_cond_false (FF42.ev 0 rfl) ?_
        refine wp_skip ?_
        refine then_n ?_
        have hml := mAt_len s n i
        refine rg_drawL FF42 MM42 [.inl (rv), .inl (.slice (pOf lv5) n (cOf lv5)), .inl (iN i), .inl (.pointer (some ⟨gOf (pOf lv5), oOf (pOf lv5) + i, none⟩)), .inl (sB (s i)), .inl (sB ((s i).take 16)), .inl (.slice (pOf lv16) n (cOf lv16)), .inl (iN i), .inl (.pointer (some ⟨gOf (pOf lv16), oOf (pOf lv16) + i, none⟩)), .inl (sB (mAt s n i)), .inl (sB (tP s n i)), .inr (oC #[sB (tP s n i)] 9, fun b => .slice (some ⟨b, 0, none⟩) 1 1)] [] [o_, o_, o_, f_ (.pointer (some ⟨gOf (pOf lv5), oOf (pOf lv5) + i, none⟩)), f_ (sB (s i)), t_ (sB ((s i).take 16)), o_, o_, f_ (.pointer (some ⟨gOf (pOf lv16), oOf (pOf lv16) + i, none⟩)), f_ (sB (mAt s n i)), t_ (sB (tP s n i)), o_] [66, 55, 6, 5, 4, 3, 0] (fun nb => [RunV Try.prog [(56, .slice (pOf lv5) n (cOf lv5)), (57, iN i), (41, .bool false), (6, iN i), (5, rv), (4, .slice (pOf lv16) n (cOf lv16)), (3, .slice (pOf lv5) n (cOf lv5)), (0, .slice p n cp)] O19 (opAt Try.f4 17 3) (.pointer (some ⟨gOf (pOf lv5), oOf (pOf lv5) + i, none⟩)), RunV Try.prog [(58, .pointer (some ⟨gOf (pOf lv5), oOf (pOf lv5) + i, none⟩)), (41, .bool false), (6, iN i), (5, rv), (4, .slice (pOf lv16) n (cOf lv16)), (3, .slice (pOf lv5) n (cOf lv5)), (0, .slice p n cp)] O19 (opAt Try.f4 17 4) (sB (s i)), 0 ≤ 16, 16 ≤ (bs (s i)).size, Value.string ((bs (s i)).extract 0 16) = sB ((s i).take 16), RunV Try.prog [(61, .slice (pOf lv16) n (cOf lv16)), (62, iN i), (41, .bool false), (6, iN i), (5, rv), (4, .slice (pOf lv16) n (cOf lv16)), (3, .slice (pOf lv5) n (cOf lv5)), (0, .slice p n cp)] O19 (opAt Try.f4 17 8) (.pointer (some ⟨gOf (pOf lv16), oOf (pOf lv16) + i, none⟩)), RunV Try.prog [(63, .pointer (some ⟨gOf (pOf lv16), oOf (pOf lv16) + i, none⟩)), (41, .bool false), (6, iN i), (5, rv), (4, .slice (pOf lv16) n (cOf lv16)), (3, .slice (pOf lv5) n (cOf lv5)), (0, .slice p n cp)] O19 (opAt Try.f4 17 9) (sB (mAt s n i)), (bs ((s i).take 16)).size + (bs (mAt s n i)).size ≤ 9223372036854775807, Value.string (bs ((s i).take 16) ++ bs (mAt s n i)) = sB (tP s n i)]) (by kernel_rfl) (by kernel_rfl) (by kernel_rfl) (fun _ => by kernel_rfl) (trivial) (fun nb => ⟨(rowX_addr (x := (.tmp 56)) (y := (.tmp 57)) (k := 1) (i := i) (by kernel_rfl) rfl rfl Try.underlying25 (by kernel_rfl) hk24 (by omega) (by omega)), (rowX_load (x := (.tmp 58)) (j := i) (by kernel_rfl) rfl Try.underlying9 rfl hk24 (fun _ hx => hx) (by omega) rfl), (Nat.zero_le _), (by simp only [bs_size]; omega), (vS2 (bs_to _ _)), (rowX_addr (x := (.tmp 61)) (y := (.tmp 62)) (k := 1) (i := i) (by kernel_rfl) rfl rfl Try.underlying25 (by kernel_rfl) hR21 (by omega) (by omega)), (rowX_load (x := (.tmp 63)) (j := i) (by kernel_rfl) rfl Try.underlying9 rfl hR21 (fun _ hx => hx) (by omega) rfl), (by simp only [bs_size, List.length_take]; omega), (vS2 ((bs_app _ _).trans (congrArg bs (tP_yes hl).symm))), trivial⟩) fun nb ac43 wd43 (FF43 : Fr 151 ac43 [(66, .slice (some ⟨(nb 11), 0, none⟩) 1 1), (55, rv), (6, iN i), (5, rv), (4, .slice (pOf lv16) n (cOf lv16)), (3, .slice (pOf lv5) n (cOf lv5)), (0, .slice p n cp)]) (MM43 : MemS (fun k => k < w0.heap.size ∧ ∀ x ∈ O, x.1 ≠ k) w0 wd43 O19 [(rv, 9, 1, i, (fv i (fun k9 => sB (tP s n k9))))]) hfx44 => ?_
        have hb_bq : wd43.heap[nb 11]? = some (oC #[sB (tP s n i)] 9) := hfx44.1.2
        clear hfx44
        generalize nb 11 = bq at *
        refine st_app [6, 5, 4, 3, 0, 67] FF43 MM43 (d := 67) (s := 55) (x := 66) (Y := [sB (tP s n i)]) (z := sB []) (bb := 16) rfl rfl rfl rfl (lies_lit hb_bq) (fun u hu => by rw [List.mem_singleton.1 hu]; rfl) (by decide) Try.underlying25 (by kernel_rfl) rfl (by decide) (by simp only [maxLen]; omega) (by omega) rfl rfl (by decide) fun ac47 wd47 rv46 FF47 MM47 => ?_
        have MMr48 : MemS (fun k => k < w0.heap.size ∧ ∀ x ∈ O, x.1 ≠ k) w0 wd47 O19 [(rv46, 9, 1, (i + 1), (fv (i + 1) (fun k9 => sB (tP s n k9))))] := by rw [show (fv (i + 1) (fun k9 => sB (tP s n k9))) = ((fv i (fun k9 => sB (tP s n k9))) ++ [sB (tP s n i)]) from (fv_succ _ _).symm]; exact MM47
        refine rp_c 1 FF47 MMr48 [] 7 [] [] (fun _ _ FF49 MM49 => ?_)
        refine wpl_nil ?_
        refine inb_n (then_n ?_)
        refine rg_c FF49 MM49 [] 7 [] [] (⟨by omega, fun _ _ FF50 MM50 => ?_⟩)
        have hd := cnt_of (FF50.get 0 rfl)
        refine then_n ⟨⟨rv46, i + 1, by omega, FF50.pick [0, 1, 2, 3, 4], MM50⟩, ?_⟩
        rw [hc, hd]; omega
    · skip
      refine then_n (.inr ⟨(FF32.ev 0 rfl).trans (dec_f hlt), ?_⟩)
      obtain rfl : n = i := by omega
      obtain ⟨rp, rc, rfl, _⟩ := MM32.rowLen
      obtain ⟨O51, MM520, hR53, hs54⟩ := MemS.freezeO2 (K := []) (O := O19) MM32
      have MM52 : MemS (fun k => k < w0.heap.size ∧ ∀ x ∈ O, x.1 ≠ k) w0 wd32 O51 [] := MM520
      have hk55 := hk23.mono hs54
      have hk56 := hk24.mono hs54
      have hk57 := hR21.mono hs54
      have hz58 : ∀ x ∈ O, x ∈ O51 := fun x hx => hs54 x (hz25 x hx)
      refine then_n ?_
      refine wp_seq (wp_region_list ?_)
      refine rp_c 1 FF32 MM52 [] 7 [68] [] (fun _ _ FF59 MM59 => ?_)
      refine st_callE [6, 5, 4, 3, 0, 69] FF59 (d := 69) (mk := fun v => .slice (pOf v) n (cOf v)) en_dm rfl rfl (dm_w rp n rc (tP s n) (by omega) (tP_lt hs) _ (hR53.at MM59.hasL)) rfl (by kernel_rfl) (by decide) fun ac62 wd62 lv61 FF62 hr63 => ?_
      obtain ⟨O64, MM650, hR66, hs67⟩ := MemS.addRow (K := []) (O := O51) MM59 hr63.1 hr63.2
      have MM65 : MemS (fun k => k < w0.heap.size ∧ ∀ x ∈ O, x.1 ≠ k) w0 wd62 O64 [] := MM650
      have hk68 := hk55.mono hs67
      have hk69 := hk56.mono hs67
      have hk70 := hk57.mono hs67
      have hk71 := hR53.mono hs67
      have hz72 : ∀ x ∈ O, x ∈ O64 := fun x hx => hs67 x (hz58 x hx)
      refine rp_c 1 FF62 MM65 [] 8 [] [] (fun _ _ FF73 MM73 => ?_)
      refine wpl_nil (then_n ?_)
      refine wp_seq ?_
      refine wp_seq (rg_c FF73 MM73 [(4, w_ 3)] 8 [74] [] (⟨(fun h => h rfl), fun _ _ FF74 MM74 => then_n ?_⟩))
      refine wp_cond_false (FF74.ev 0 rfl) ?_
      refine wp_skip ?_
      refine then_n ?_
      refine wp_seq ?_
      refine wp_seq (rg_c FF74 MM74 [] 9 [] [] (fun _ _ FF75 MM75 => then_n ?_))
      refine wp_for2 (fun a' w' => ∃ i : Nat, i ≤ n ∧ Fr 151 a' [(8, iN i), (7, .slice (pOf lv61) n (cOf lv61)), (5, .slice rp n rc), (4, .slice (pOf lv16) n (cOf lv16)), (3, .slice (pOf lv5) n (cOf lv5)), (0, .slice p n cp)] ∧ MemS (fun k => k < w0.heap.size ∧ ∀ x ∈ O, x.1 ≠ k) w0 w' O64 []) (fun a' _ => (n - cnt 8 a').toNat) ⟨0, Nat.zero_le _, FF75.pick [0, 1, 3, 4, 5, 6], MM75⟩ ?_
      rintro ac76 wd76 ⟨i, hi, FF76, MM76⟩
      have hc := cnt_of (FF76.get 0 rfl)
      refine rg_c FF76 MM76 [] 9 [78] [] (fun _ _ FF77 MM77 => ?_)
      by_cases hlt : i < n
      · skip
        refine then_n (.inl ⟨(FF77.ev 0 rfl).trans (dec_t hlt), ?_⟩)
        have hin : i < n := hlt
        refine wp_seq (rg_c FF77 MM77 [] 9 [9] [] (fun _ _ FF78 MM78 => then_n ?_))
        refine wp_seq ?_
        refine wp_seq (rg_c FF78 MM78 [] 11 [] [] (fun _ _ FF79 MM79 => then_n ?_))
        refine wp_for2 (fun a' w' => ∃ j : Nat, j ≤ n ∧ Fr 151 a' [(10, iN j), (9, iN (cntS s i j)), (8, iN i), (7, .slice (pOf lv61) n (cOf lv61)), (5, .slice rp n rc), (4, .slice (pOf lv16) n (cOf lv16)), (3, .slice (pOf lv5) n (cOf lv5)), (0, .slice p n cp)] ∧ MemS (fun k => k < w0.heap.size ∧ ∀ x ∈ O, x.1 ≠ k) w0 w' O64 []) (fun a' _ => (n - cnt 10 a').toNat) ⟨0, Nat.zero_le _, FF79.pick [0, 1, 2, 3, 4, 5, 6, 7], MM79⟩ ?_
        rintro ac80 wd80 ⟨j, hj, FF80, MM80⟩
        have hcj := cnt_of (FF80.get 0 rfl)
        refine rg_c FF80 MM80 [] 11 [84] [] (fun _ _ FF81 MM81 => ?_)
        by_cases hlj2 : j < n
        · skip
          refine then_n (.inl ⟨(FF81.ev 0 rfl).trans (dec_t hlj2), ?_⟩)
          by_cases b2 : (s i).length ≠ 52
          · skip
            have hno : ¬ SM s i j := fun q => b2 q.1
            refine wp_seq (rg_dc 27 FF81 MM81 [(2, f_ (.pointer (some ⟨gOf (pOf lv5), oOf (pOf lv5) + i, none⟩))), (0, f_ (sB (s i))), (0, t_ (iN ((s i).length))), (0, w_ 3)] [] 11 [113] [] (⟨(rowX_addr (x := (.tmp 87)) (y := (.tmp 88)) (k := 1) (i := i) (by kernel_rfl) rfl rfl Try.underlying25 (by kernel_rfl) hk69 (by omega) (by omega)), (rowX_load (x := (.tmp 89)) (j := i) (by kernel_rfl) rfl Try.underlying9 rfl hk69 (fun _ hx => hx) (by omega) rfl), (vI (bs_size _)), b2, fun _ _ FF82 MM82 => then_n ?_⟩))
            refine wp_cond_false (FF82.ev 0 rfl) ?_
            refine wp_skip ?_
            refine inb_n (then_n ?_)
            refine rg_c FF82 MM82 [] 11 [] [] (⟨by omega, fun ac83 _ FF83 MM83 => ?_⟩)
            have hdj := cnt_of (FF83.get 0 rfl)
            have FFz84 : Fr 151 ac83 [(10, iN (j + 1)), (9, iN (cntS s i (j + 1))), (8, iN i), (7, .slice (pOf lv61) n (cOf lv61)), (5, .slice rp n rc), (4, .slice (pOf lv16) n (cOf lv16)), (3, .slice (pOf lv5) n (cOf lv5)), (0, .slice p n cp)] := by rw [show cntS s i (j + 1) = cntS s i j from by rw [cntS, if_neg hno, Nat.add_zero]]; exact FF83
            refine then_n ⟨⟨j + 1, by omega, FFz84.pick [0, 1, 2, 3, 4, 5, 6, 7], MM83⟩, ?_⟩
            rw [hcj, hdj]; omega
          by_cases b3 : (s j).length ≠ 52
          · skip
            have hno : ¬ SM s i j := fun q => b3 q.2.1
            refine wp_seq (rg_dc 27 FF81 MM81 [(2, f_ (.pointer (some ⟨gOf (pOf lv5), oOf (pOf lv5) + i, none⟩))), (0, f_ (sB (s i))), (0, t_ (iN ((s i).length))), (0, w_ 2), (3, f_ (.pointer (some ⟨gOf (pOf lv5), oOf (pOf lv5) + j, none⟩))), (0, f_ (sB (s j))), (0, t_ (iN ((s j).length))), (0, w_ 3)] [] 11 [113] [] (⟨(rowX_addr (x := (.tmp 87)) (y := (.tmp 88)) (k := 1) (i := i) (by kernel_rfl) rfl rfl Try.underlying25 (by kernel_rfl) hk69 (by omega) (by omega)), (rowX_load (x := (.tmp 89)) (j := i) (by kernel_rfl) rfl Try.underlying9 rfl hk69 (fun _ hx => hx) (by omega) rfl), (vI (bs_size _)), (Decidable.of_not_not b2), (rowX_addr (x := (.tmp 94)) (y := (.tmp 95)) (k := 1) (i := j) (by kernel_rfl) rfl rfl Try.underlying25 (by kernel_rfl) hk69 (by omega) (by omega)), (rowX_load (x := (.tmp 96)) (j := j) (by kernel_rfl) rfl Try.underlying9 rfl hk69 (fun _ hx => hx) (by omega) rfl), (vI (bs_size _)), b3, fun _ _ FF85 MM85 => then_n ?_⟩))
            refine wp_cond_false (FF85.ev 0 rfl) ?_
            refine wp_skip ?_
            refine inb_n (then_n ?_)
            refine rg_c FF85 MM85 [] 11 [] [] (⟨by omega, fun ac86 _ FF86 MM86 => ?_⟩)
            have hdj := cnt_of (FF86.get 0 rfl)
            have FFz87 : Fr 151 ac86 [(10, iN (j + 1)), (9, iN (cntS s i (j + 1))), (8, iN i), (7, .slice (pOf lv61) n (cOf lv61)), (5, .slice rp n rc), (4, .slice (pOf lv16) n (cOf lv16)), (3, .slice (pOf lv5) n (cOf lv5)), (0, .slice p n cp)] := by rw [show cntS s i (j + 1) = cntS s i j from by rw [cntS, if_neg hno, Nat.add_zero]]; exact FF86
            refine then_n ⟨⟨j + 1, by omega, FFz87.pick [0, 1, 2, 3, 4, 5, 6, 7], MM86⟩, ?_⟩
            rw [hcj, hdj]; omega
          by_cases b4 : (s i).take 16 ≠ (s j).take 16
          · skip
            have hli : (s i).length = 52 := Decidable.of_not_not b2
            have hlj : (s j).length = 52 := Decidable.of_not_not b3
            have hno : ¬ SM s i j := fun q => b4 q.2.2
            refine wp_seq (rg_dc 27 FF81 MM81 [(2, f_ (.pointer (some ⟨gOf (pOf lv5), oOf (pOf lv5) + i, none⟩))), (0, f_ (sB (s i))), (0, t_ (iN ((s i).length))), (0, w_ 2), (3, f_ (.pointer (some ⟨gOf (pOf lv5), oOf (pOf lv5) + j, none⟩))), (0, f_ (sB (s j))), (0, t_ (iN ((s j).length))), (0, w_ 2), (4, f_ (.pointer (some ⟨gOf (pOf lv5), oOf (pOf lv5) + i, none⟩))), (0, f_ (sB (s i))), (0, t_ (sB ((s i).take 16))), (2, f_ (.pointer (some ⟨gOf (pOf lv5), oOf (pOf lv5) + j, none⟩))), (0, f_ (sB (s j))), (0, t_ (sB ((s j).take 16))), (0, w_ 3)] [] 11 [113] [] (⟨(rowX_addr (x := (.tmp 87)) (y := (.tmp 88)) (k := 1) (i := i) (by kernel_rfl) rfl rfl Try.underlying25 (by kernel_rfl) hk69 (by omega) (by omega)), (rowX_load (x := (.tmp 89)) (j := i) (by kernel_rfl) rfl Try.underlying9 rfl hk69 (fun _ hx => hx) (by omega) rfl), (vI (bs_size _)), (Decidable.of_not_not b2), (rowX_addr (x := (.tmp 94)) (y := (.tmp 95)) (k := 1) (i := j) (by kernel_rfl) rfl rfl Try.underlying25 (by kernel_rfl) hk69 (by omega) (by omega)), (rowX_load (x := (.tmp 96)) (j := j) (by kernel_rfl) rfl Try.underlying9 rfl hk69 (fun _ hx => hx) (by omega) rfl), (vI (bs_size _)), (Decidable.of_not_not b3), (rowX_addr (x := (.tmp 102)) (y := (.tmp 103)) (k := 1) (i := i) (by kernel_rfl) rfl rfl Try.underlying25 (by kernel_rfl) hk69 (by omega) (by omega)), (rowX_load (x := (.tmp 104)) (j := i) (by kernel_rfl) rfl Try.underlying9 rfl hk69 (fun _ hx => hx) (by omega) rfl), (Nat.zero_le _), (by simp only [bs_size]; omega), (vS2 (bs_to _ _)), (rowX_addr (x := (.tmp 107)) (y := (.tmp 108)) (k := 1) (i := j) (by kernel_rfl) rfl rfl Try.underlying25 (by kernel_rfl) hk69 (by omega) (by omega)), (rowX_load (x := (.tmp 109)) (j := j) (by kernel_rfl) rfl Try.underlying9 rfl hk69 (fun _ hx => hx) (by omega) rfl), (Nat.zero_le _), (by simp only [bs_size]; omega), (vS2 (bs_to _ _)), (fun h => b4 (bs_inj (take_lt (hs i hin)) (take_lt (hs j hlj2)) h)), fun _ _ FF88 MM88 => then_n ?_⟩))
            refine wp_cond_false (FF88.ev 0 rfl) ?_
            refine wp_skip ?_
            refine inb_n (then_n ?_)
            refine rg_c FF88 MM88 [] 11 [] [] (⟨by omega, fun ac89 _ FF89 MM89 => ?_⟩)
            have hdj := cnt_of (FF89.get 0 rfl)
            have FFz90 : Fr 151 ac89 [(10, iN (j + 1)), (9, iN (cntS s i (j + 1))), (8, iN i), (7, .slice (pOf lv61) n (cOf lv61)), (5, .slice rp n rc), (4, .slice (pOf lv16) n (cOf lv16)), (3, .slice (pOf lv5) n (cOf lv5)), (0, .slice p n cp)] := by rw [show cntS s i (j + 1) = cntS s i j from by rw [cntS, if_neg hno, Nat.add_zero]]; exact FF89
            refine then_n ⟨⟨j + 1, by omega, FFz90.pick [0, 1, 2, 3, 4, 5, 6, 7], MM89⟩, ?_⟩
            rw [hcj, hdj]; omega
          · skip
            have hlj : (s j).length = 52 := Decidable.of_not_not b3
            have hli : (s i).length = 52 := Decidable.of_not_not b2
            have hh : SM s i j := ⟨hli, hlj, Decidable.of_not_not b4⟩
            refine wp_seq (rg_dc 27 FF81 MM81 [(2, f_ (.pointer (some ⟨gOf (pOf lv5), oOf (pOf lv5) + i, none⟩))), (0, f_ (sB (s i))), (0, t_ (iN ((s i).length))), (0, w_ 2), (3, f_ (.pointer (some ⟨gOf (pOf lv5), oOf (pOf lv5) + j, none⟩))), (0, f_ (sB (s j))), (0, t_ (iN ((s j).length))), (0, w_ 2), (4, f_ (.pointer (some ⟨gOf (pOf lv5), oOf (pOf lv5) + i, none⟩))), (0, f_ (sB (s i))), (0, t_ (sB ((s i).take 16))), (2, f_ (.pointer (some ⟨gOf (pOf lv5), oOf (pOf lv5) + j, none⟩))), (0, f_ (sB (s j))), (0, t_ (sB ((s j).take 16))), (0, w_ 2)] [] 11 [113] [] (⟨(rowX_addr (x := (.tmp 87)) (y := (.tmp 88)) (k := 1) (i := i) (by kernel_rfl) rfl rfl Try.underlying25 (by kernel_rfl) hk69 (by omega) (by omega)), (rowX_load (x := (.tmp 89)) (j := i) (by kernel_rfl) rfl Try.underlying9 rfl hk69 (fun _ hx => hx) (by omega) rfl), (vI (bs_size _)), (Decidable.of_not_not b2), (rowX_addr (x := (.tmp 94)) (y := (.tmp 95)) (k := 1) (i := j) (by kernel_rfl) rfl rfl Try.underlying25 (by kernel_rfl) hk69 (by omega) (by omega)), (rowX_load (x := (.tmp 96)) (j := j) (by kernel_rfl) rfl Try.underlying9 rfl hk69 (fun _ hx => hx) (by omega) rfl), (vI (bs_size _)), (Decidable.of_not_not b3), (rowX_addr (x := (.tmp 102)) (y := (.tmp 103)) (k := 1) (i := i) (by kernel_rfl) rfl rfl Try.underlying25 (by kernel_rfl) hk69 (by omega) (by omega)), (rowX_load (x := (.tmp 104)) (j := i) (by kernel_rfl) rfl Try.underlying9 rfl hk69 (fun _ hx => hx) (by omega) rfl), (Nat.zero_le _), (by simp only [bs_size]; omega), (vS2 (bs_to _ _)), (rowX_addr (x := (.tmp 107)) (y := (.tmp 108)) (k := 1) (i := j) (by kernel_rfl) rfl rfl Try.underlying25 (by kernel_rfl) hk69 (by omega) (by omega)), (rowX_load (x := (.tmp 109)) (j := j) (by kernel_rfl) rfl Try.underlying9 rfl hk69 (fun _ hx => hx) (by omega) rfl), (Nat.zero_le _), (by simp only [bs_size]; omega), (vS2 (bs_to _ _)), (congrArg bs (Decidable.of_not_not b4)), fun _ _ FF91 MM91 => then_n ?_⟩))
            refine wp_cond_true (FF91.ev 0 rfl) ?_
            have hcl := cnt_le s i j
            refine rg_c FF91 MM91 [] 11 [] [] (⟨by omega, fun _ _ FF92 MM92 => ?_⟩)
            refine inb_n (then_n ?_)
            refine rg_c FF92 MM92 [] 11 [] [] (⟨by omega, fun ac93 _ FF93 MM93 => ?_⟩)
            have hdj := cnt_of (FF93.get 0 rfl)
            have FFz94 : Fr 151 ac93 [(10, iN (j + 1)), (9, iN (cntS s i (j + 1))), (8, iN i), (7, .slice (pOf lv61) n (cOf lv61)), (5, .slice rp n rc), (4, .slice (pOf lv16) n (cOf lv16)), (3, .slice (pOf lv5) n (cOf lv5)), (0, .slice p n cp)] := by rw [show cntS s i (j + 1) = cntS s i j + 1 from by rw [cntS, if_pos hh]]; exact FF93
            refine then_n ⟨⟨j + 1, by omega, FFz94.pick [0, 1, 2, 3, 4, 5, 6, 7], MM93⟩, ?_⟩
            rw [hcj, hdj]; omega
        · skip
          refine then_n (.inr ⟨(FF81.ev 0 rfl).trans (dec_f hlj2), ?_⟩)
          obtain rfl : n = j := by omega
          refine then_n ?_
          by_cases h2 : cntS s i n = 2
          · skip
            have hl : (s i).length = 52 := Decidable.of_not_not fun q => by rw [(cnt_bad q n).1] at h2; omega
            refine wp_seq (rg_dc 34 FF81 MM81 [(1, w_ 2), (3, f_ (.pointer (some ⟨gOf (pOf lv61), oOf (pOf lv61) + i, none⟩))), (0, f_ (sB (mAt (tP s n) n i))), (2, f_ (.pointer (some ⟨gOf (pOf lv5), oOf (pOf lv5) + i, none⟩))), (0, f_ (sB (s i))), (0, t_ (sB ((s i).drop 16))), (0, w_ 3), (3, w_ 3)] [] 11 [149] [] (⟨h2, (rowX_addr (x := (.tmp 119)) (y := (.tmp 120)) (k := 1) (i := i) (by kernel_rfl) rfl rfl Try.underlying25 (by kernel_rfl) hR66 (by omega) (by omega)), (rowX_load (x := (.tmp 121)) (j := i) (by kernel_rfl) rfl Try.underlying9 rfl hR66 (fun _ hx => hx) (by omega) rfl), (rowX_addr (x := (.tmp 123)) (y := (.tmp 124)) (k := 1) (i := i) (by kernel_rfl) rfl rfl Try.underlying25 (by kernel_rfl) hk69 (by omega) (by omega)), (rowX_load (x := (.tmp 125)) (j := i) (by kernel_rfl) rfl Try.underlying9 rfl hk69 (fun _ hx => hx) (by omega) rfl), (by simp only [bs_size]; omega), (Nat.zero_le _), (vS2 (bs_from _ _)), (fun h => h (congrArg bs (pair_back hin h2))), (fun h => h h2), fun _ _ FF95 MM95 => then_n ?_⟩))
            refine wp_cond_false (FF95.ev 0 rfl) ?_
            refine wp_skip ?_
            refine inb_n (then_n ?_)
            refine rg_c FF95 MM95 [] 11 [] [] (⟨by omega, fun _ _ FF96 MM96 => ?_⟩)
            have hd := cnt_of (FF96.get 0 rfl)
            refine then_n ⟨⟨i + 1, by omega, FF96.pick [0, 3, 4, 5, 6, 7], MM96⟩, ?_⟩
            rw [hc, hd]; omega
          · skip
            refine wp_seq (rg_dc 34 FF81 MM81 [(1, w_ 3), (14, w_ 2), (3, f_ (.pointer (some ⟨gOf (pOf lv61), oOf (pOf lv61) + i, none⟩))), (0, f_ (sB (mAt (tP s n) n i))), (0, t_ (sB (List.replicate 36 0))), (0, w_ 3), (3, f_ (.pointer (some ⟨gOf (pOf lv16), oOf (pOf lv16) + i, none⟩))), (0, f_ (sB (mAt s n i))), (0, t_ (sB (List.replicate 36 0))), (0, w_ 3)] [] 11 [149] [] (⟨h2, h2, (rowX_addr (x := (.tmp 134)) (y := (.tmp 135)) (k := 1) (i := i) (by kernel_rfl) rfl rfl Try.underlying25 (by kernel_rfl) hR66 (by omega) (by omega)), (rowX_load (x := (.tmp 136)) (j := i) (by kernel_rfl) rfl Try.underlying9 rfl hR66 (fun _ hx => hx) (by omega) rfl), (callP_of en_lbox (lbox_any 0 (by decide)) _), (fun h => h (congrArg bs (pair_none hin h2).1)), (rowX_addr (x := (.tmp 141)) (y := (.tmp 142)) (k := 1) (i := i) (by kernel_rfl) rfl rfl Try.underlying25 (by kernel_rfl) hk70 (by omega) (by omega)), (rowX_load (x := (.tmp 143)) (j := i) (by kernel_rfl) rfl Try.underlying9 rfl hk70 (fun _ hx => hx) (by omega) rfl), (callP_of en_lbox (lbox_any 0 (by decide)) _), (fun h => h (congrArg bs (pair_none hin h2).2)), fun _ _ FF97 MM97 => then_n ?_⟩))
            refine wp_cond_false (FF97.ev 0 rfl) ?_
            refine wp_skip ?_
            refine inb_n (then_n ?_)
            refine rg_c FF97 MM97 [] 11 [] [] (⟨by omega, fun _ _ FF98 MM98 => ?_⟩)
            have hd := cnt_of (FF98.get 0 rfl)
            refine then_n ⟨⟨i + 1, by omega, FF98.pick [0, 3, 4, 5, 6, 7], MM98⟩, ?_⟩
            rw [hc, hd]; omega
      · skip
        refine then_n (.inr ⟨(FF77.ev 0 rfl).trans (dec_f hlt), ?_⟩)
        skip
        refine then_n ?_
        refine wp_seq (rg_c FF77 MM77 [(0, t_ (.bool true))] 9 [] [] (⟨(callP_of en_wakes wakes_w _), fun _ _ FF99 MM99 => then_n ?_⟩))
        refine wp_ret ?_
        repeat first | refine then_ret ?_ | refine inb_ret ?_
        exact (ret_fr FF99 0 Try.results4 rfl ⟨rfl, MM99.belowN H (fun _ hx => hz72 _ hx)⟩)
  · skip
    refine wp_seq (rg_c FF1 MM1 [(1, u_ 1 (.bool false))] 3 [13] [] (⟨⟨en_fair, fun w Hw => fair_w p n cp fN fB fR false ⟨fun h => (by cases h), fun h => (hP h).elim⟩ w (hA.at Hw)⟩, fun _ _ FF100 MM100 => then_n ?_⟩))
    refine wp_cond_true (FF100.ev 0 rfl) ?_
    refine wp_seq (rg_c FF100 MM100 [(0, t_ (.bool true))] 3 [] [] (⟨(callP_of en_wakes wakes_w _), fun _ _ FF101 MM101 => then_n ?_⟩))
    refine wp_ret ?_
    repeat first | refine then_ret ?_ | refine inb_ret ?_
    exact (ret_fr FF101 0 Try.results4 rfl ⟨rfl, MM101.belowN H (fun _ hx => hx)⟩)
end Go.Proofs.Ytlcadhfdmpjdkaa
namespace Go.Proofs.Ytlcadhfdmpjdkaa
open Go.ChangeShapes Go.WideShapes Go.ChangeAt Go.RowKit
set_option maxRecDepth 100000 in
theorem made_cells {H : Type} {enc : TypeId × Value → H} {W : World} {base' : Nat} {spare : Nat → Bool} {held : Bool} {fuel : Nat} {X : List Value} {x : DataW H × List MemPlace} (h : DataW.trod enc Try.prog W base' spare held fuel 36 X = some x) :
    ∃ (a b : Nat) (w : List Nat), X[0]? = some (.int .u8 (a : Nat)) ∧ X[1]? = some (.int .u8 (b : Nat)) ∧ X[2]? = some (.string (bs w)) ∧ a < 256 ∧ b < 256 ∧ (∀ i, w.getD i 0 < 256) := by
  obtain ⟨xs, m, _, _, hl, hlen, hel⟩ := DataW.trod_struct Try.underlying36 h
  have hx : xs.length = 3 := hlen
  have g : ∀ i, i < 3 → xs[i]? = some (xs[i]?.getD (.agg [], [])) := fun i hi => by simp [hx, hi]
  have e0 : DataW.trod enc Try.prog W base' spare held m 5 (List.take (Try.prog.cellsOf 5) (List.drop 0 X)) = xs[0]? := hel 0 _ rfl
  rw [show Try.prog.cellsOf 5 = 1 by kernel_rfl, g 0 (by omega)] at e0
  obtain ⟨z0, q0, _, w0⟩ := DataW.trod_int Try.underlying5 e0
  have bb0 := bounds_u8 w0
  obtain ⟨n0, rfl⟩ := Int.eq_ofNat_of_zero_le bb0.1
  have e1 : DataW.trod enc Try.prog W base' spare held m 5 (List.take (Try.prog.cellsOf 5) (List.drop 1 X)) = xs[1]? := hel 1 _ rfl
  rw [show Try.prog.cellsOf 5 = 1 by kernel_rfl, g 1 (by omega)] at e1
  obtain ⟨z1, q1, _, w1⟩ := DataW.trod_int Try.underlying5 e1
  have bb1 := bounds_u8 w1
  obtain ⟨n1, rfl⟩ := Int.eq_ofNat_of_zero_le bb1.1
  have e2 : DataW.trod enc Try.prog W base' spare held m 9 (List.take (Try.prog.cellsOf 9) (List.drop 2 X)) = xs[2]? := hel 2 _ rfl
  rw [show Try.prog.cellsOf 9 = 1 by kernel_rfl, g 2 (by omega)] at e2
  obtain ⟨z2, q2, _, w2⟩ := DataW.trod_string Try.underlying9 e2
  refine ⟨n0, n1, nl z2, ?_, ?_, ?_, by have := bb0.2; omega, by have := bb1.2; omega, nl_lt z2⟩
  · have h3 := congrArg (fun l => l[0]?) q0; simpa [Value.cells] using h3
  · have h3 := congrArg (fun l => l[0]?) q1; simpa [Value.cells] using h3
  · rw [bs_nl]; have h3 := congrArg (fun l => l[0]?) q2; simpa [Value.cells] using h3
set_option maxRecDepth 100000 in
theorem made_param {H : Type} {enc : TypeId × Value → H} {W : World} {r : Reach} {base base' : Nat} {spare : Nat → Bool} {held : Bool} {v : Value} {d : DataW H} {q : List MemPlace} (hv : Value.okWide Try.prog W r base 22 v) (h : DataW.Trod enc Try.prog W base' spare held 22 v d q) :
    ∃ (p : Option Addr) (n c : Nat) (fN fB : Nat → Nat) (fR : Nat → List Nat), v = .slice p n c ∧ (∀ i, fN i < 256) ∧ (∀ i, fB i < 256) ∧ (∀ i j, (fR i).getD j 0 < 256) ∧ RowIn W p (n * 3) (madeV fN fB fR) := by
  obtain ⟨p, n, c, rfl, h1⟩ := rowX_param Try.underlying22 (k := 3) (by kernel_rfl) (by decide) hv h
  rcases h1 with rfl | ⟨b, off, cs, T, fr, h2, h3, h4⟩
  · exact ⟨p, 0, c, fun _ => 0, fun _ => 0, fun _ => [], rfl, fun _ => (by decide : 0 < 256), fun _ => (by decide : 0 < 256), fun i j => by simp, .inl rfl⟩
  · have key : ∀ j, ∃ x : Nat × Nat × List Nat, x.1 < 256 ∧ x.2.1 < 256 ∧ (∀ i, x.2.2.getD i 0 < 256) ∧ (j < n → cs[off + (j * 3 + 0)]? = some (.int .u8 (x.1 : Nat)) ∧ cs[off + (j * 3 + 1)]? = some (.int .u8 (x.2.1 : Nat)) ∧ cs[off + (j * 3 + 2)]? = some (.string (bs x.2.2))) := fun j => by
      by_cases hj : j < n
      · obtain ⟨X, x, fuel, q1, q2, q3⟩ := h4 j hj
        obtain ⟨a, b, w, a0, a1, a2, ha, hb, hw⟩ := made_cells q3
        exact ⟨(a, b, w), ha, hb, hw, fun _ => ⟨(q2 0 (by decide)).trans a0, (q2 1 (by decide)).trans a1, (q2 2 (by decide)).trans a2⟩⟩
      · exact ⟨(0, 0, []), by decide, by decide, fun i => by simp, fun h => (hj h).elim⟩
    obtain ⟨f, hf⟩ := Classical.axiomOfChoice key
    refine ⟨p, n, c, fun i => (f i).1, fun i => (f i).2.1, fun i => (f i).2.2, rfl, fun i => (hf i).1, fun i => (hf i).2.1, fun i => (hf i).2.2.1, .inr ⟨b, off, cs, T, fr, h2, h3, fun j hj => ?_⟩⟩
    obtain ⟨g0, g1, g2⟩ := (hf (j / 3)).2.2.2 (by omega)
    have hm : j % 3 = 0 ∨ j % 3 = 1 ∨ j % 3 = 2 := by omega
    rcases hm with hm | hm | hm
    · rw [show j = j / 3 * 3 + 0 by omega, g0, Nat.add_zero, madeV_0]
    · rw [show j = j / 3 * 3 + 1 by omega, g1, madeV_1]
    · rw [show j = j / 3 * 3 + 2 by omega, g2, madeV_2]
end Go.Proofs.Ytlcadhfdmpjdkaa
