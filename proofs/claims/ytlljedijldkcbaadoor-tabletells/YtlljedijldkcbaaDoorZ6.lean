/- Several texts in one: Package nat: a number as a text. A region that draws its order, where reckonings may come behind a store: they are taken first; two reads come up in either order; then the rest in its row. A region that draws its order, gone through by what may come up: one operation at a time, by the laws for a row of one. What is taken from a tape, what is drawn. No program in this text. Package tape: what is taken. Package tape: numbers below another one. Package tape: the number of some bits; numbers under another one. Package tape: draws that may not be. The document: numbers as bytes: made, added, subtracted, compared. The document: bits. -/
import Derived.Test.YtlljedijldkcbaaDoorZ5
import Derived.Test.YtlljedijldkcbaaDoorZ4
import Derived.Test.YtlljedijldkcbaaDoorZ2
namespace Go.Proofs.YtlljedijldkcbaaDoor
open Go.RowKit
set_option maxRecDepth 100000 in
theorem digs_nil  (w0 : World) :
    Calls Tryd.prog 58 #[.slice none 0 0] w0 fun e w' => e = .returned (sB [48]) ∧ Below w0.heap.size w0 w' := by
  refine enter_fr Tryd.func58 rfl Tryd.ntmps58 (by simp) fun ac (FF : Fr 49 ac [(0, .slice none 0 0)]) => ?_
  have MM := MemS.start w0
  refine wp_seq (rg_seq FF MM [o_] [0, 2] (fun Kt => Kt [(2, sB []), (0, .slice none 0 0)] []) (by kernel_rfl) (fun _ => by kernel_rfl) (fun ac1 wd1 FF1 MM1 => then_n ?_))
  refine wp_seq (rg_seq FF1 MM1 [o_] [2, 0, 3] (fun Kt => Kt [(3, .slice none 0 0), (2, sB []), (0, .slice none 0 0)] []) (by kernel_rfl) (fun _ => by kernel_rfl) (fun ac2 wd2 FF2 MM2 => then_n ?_))
  refine wp_seq ?_
  refine wp_for2w (fun a' w' => Fr 49 a' [(3, .slice none 0 0), (2, sB []), (0, .slice none 0 0)] ∧ MemS (fun k => k < w0.heap.size) w0 w' [] []) (fun a' _ => 0) ⟨FF2.pick [0, 1, 2], MM2⟩ ?_
  rintro ac3 wd3 ⟨FF3, MM3⟩
  refine rg_seq FF3 MM3 [o_, o_, w_ 3] [3, 2, 0, 10] (fun Kt => ¬ (0 > 0) ∧ Kt [(10, .bool false), (3, .slice none 0 0), (2, sB []), (0, .slice none 0 0)] []) (by kernel_rfl) (fun _ => by kernel_rfl) (⟨(by decide), fun ac4 wd4 FF4 MM4 => ?_⟩)
  refine then_n (.inr ⟨FF4.ev 0 rfl, ?_⟩)
  refine then_n ?_
  refine wp_seq ?_
  refine wp_seq (rg_seq FF4 MM4 [o_, o_, w_ 2] [3, 2, 0, 20] (fun Kt => 0 = 0 ∧ Kt [(20, .bool true), (3, .slice none 0 0), (2, sB []), (0, .slice none 0 0)] []) (by kernel_rfl) (fun _ => by kernel_rfl) (⟨(by decide), fun ac5 wd5 FF5 MM5 => then_n ?_⟩))
  refine wp_cond_true (FF5.ev 0 rfl) ?_
  refine wp_seq (rg_seq FF5 MM5 [o_] [3, 2, 0] (fun Kt => Kt [(2, sB [48]), (3, .slice none 0 0), (0, .slice none 0 0)] []) (by kernel_rfl) (fun _ => by kernel_rfl) (fun ac6 wd6 FF6 MM6 => then_n ?_))
  refine wp_ret ?_
  repeat first | refine then_ret ?_ | refine inb_ret ?_
  exact (ret_fr FF6 0 Tryd.results58 rfl ⟨rfl, MM6.below⟩)
set_option maxRecDepth 100000 in
theorem ntext_zero (O : Blks) (hD : Distinct O) (M : Nat) (x : Value) (hM : NatO O (nv M x) M) (hs : qsz M < 1000000) (h0 : M = 0) (w0 : World) (H : Has w0 O) :
    Calls Tryd.prog 37 #[.agg #[nv M x]] w0 fun e w' => e = .returned (sB (decN M)) ∧ Below w0.heap.size w0 w' := by
  refine enter_fr Tryd.func37 rfl Tryd.ntmps37 (by simp) fun ac (FF : Fr 7 ac [(0, aG #[nv M x])]) => ?_
  have MM : MemS (fun k => k < w0.heap.size ∧ ∀ x ∈ O, x.1 ≠ k) w0 w0 O [] := MemS.startN H hD
  refine wp_seq (rg_seq FF MM [o_, o_] [1, 2] (fun Kt => ∀ ba, Kt [(2, sB []), (1, pT ba)] ((ba, oC #[nv M x] 37) :: O)) (by kernel_rfl) (fun _ => by kernel_rfl) (fun ba => fun ac1 wd1 FF1 MM1 => then_n ?_))
  refine wp_seq (wp_region_list ?_)
  refine rg_part 2 FF1 MM1 [o_, l_ 0 (nv M x)] [2, 4] (fun Kt => ba = ba ∧ (#[nv M x] : Array Value)[0]? = some (nv M x) ∧ Kt [(4, nv M x), (2, sB [])] ((ba, oC #[nv M x] 37) :: O)) (by kernel_rfl) (fun _ => by kernel_rfl) (⟨rfl, rfl, fun ac2 wd2 FF2 MM2 => ?_⟩)
  refine st_callE [2, 5] FF2 (d := 5) (mk := fun v => nv M v) en_clone rfl rfl (clone_any M x hs _ (hM.at (Has.tl MM2.hasL))) rfl (by kernel_rfl) (by decide) fun ac4 wd4 lv3 (FF4 : Fr 7 ac4 [(5, nv M lv3), (2, sB [])]) hr5 => ?_
  obtain ⟨hB, hcl⟩ := hr5
  have MM6 := MM2.keep hB
  obtain ⟨_, hp, hcp⟩ := hcl.resolve_right (fun h => h.1 h0)
  rw [show nv M lv3 = .slice none 0 0 by rw [nv, hp, hcp, h0]; rfl] at FF4
  refine rg_part 2 FF4 MM6 [t_ (sB (decN M)), o_] [2] (fun Kt => CallP Tryd.prog 58 [.slice none 0 0] [] (sB (decN M)) ∧ Kt [(2, sB (decN M))] ((ba, oC #[nv M x] 37) :: O)) (by kernel_rfl) (fun _ => by kernel_rfl) (⟨(callP_of en_digs (fun w => by have h7 := digs_nil w; rw [h0]; exact h7) _), fun ac7 wd7 FF7 MM7 => ?_⟩)
  refine wpl_nil (then_n ?_)
  refine wp_ret ?_
  repeat first | refine then_ret ?_ | refine inb_ret ?_
  exact (ret_fr FF7 0 Tryd.results37 rfl ⟨rfl, MM7.belowN H (fun _ hx => List.mem_cons_of_mem _ (hx))⟩)
set_option maxRecDepth 100000 in
theorem ntext_pos (O : Blks) (hD : Distinct O) (M : Nat) (x : Value) (hM : NatO O (nv M x) M) (hs : qsz M < 1000000) (hT : TabO O) (h0 : M ≠ 0) (w0 : World) (H : Has w0 O) :
    Calls Tryd.prog 37 #[.agg #[nv M x]] w0 fun e w' => e = .returned (sB (decN M)) ∧ Below w0.heap.size w0 w' := by
  refine enter_fr Tryd.func37 rfl Tryd.ntmps37 (by simp) fun ac (FF : Fr 7 ac [(0, aG #[nv M x])]) => ?_
  have MM : MemS (fun k => k < w0.heap.size ∧ ∀ x ∈ O, x.1 ≠ k) w0 w0 O [] := MemS.startN H hD
  refine wp_seq (rg_seq FF MM [o_, o_] [1, 2] (fun Kt => ∀ ba, Kt [(2, sB []), (1, pT ba)] ((ba, oC #[nv M x] 37) :: O)) (by kernel_rfl) (fun _ => by kernel_rfl) (fun ba => fun ac1 wd1 FF1 MM1 => then_n ?_))
  refine wp_seq (wp_region_list ?_)
  refine rg_part 2 FF1 MM1 [o_, l_ 0 (nv M x)] [2, 4] (fun Kt => ba = ba ∧ (#[nv M x] : Array Value)[0]? = some (nv M x) ∧ Kt [(4, nv M x), (2, sB [])] ((ba, oC #[nv M x] 37) :: O)) (by kernel_rfl) (fun _ => by kernel_rfl) (⟨rfl, rfl, fun ac2 wd2 FF2 MM2 => ?_⟩)
  refine st_callE [2, 5] FF2 (d := 5) (mk := fun v => nv M v) en_clone rfl rfl (clone_any M x hs _ (hM.at (Has.tl MM2.hasL))) rfl (by kernel_rfl) (by decide) fun ac4 wd4 lv3 (FF4 : Fr 7 ac4 [(5, nv M lv3), (2, sB [])]) hr5 => ?_
  obtain ⟨hB, hcl⟩ := hr5
  have MM6 := MM2.keep hB
  obtain ⟨_, g, rest, hp, hg, hgb, hsz, hmx⟩ := hcl.resolve_left (fun h => h0 h.1)
  rw [show nv M lv3 = .slice (some ⟨g, 0, none⟩) (qsz M) (cOf lv3) by rw [nv, hp]] at FF4
  have MMg : MemS (fun k => k < w0.heap.size ∧ ∀ x ∈ O, x.1 ≠ k) w0 wd4 ((g, .cells (cn .u64 (qminB M) ++ rest) 61) :: (ba, oC #[nv M x] 37) :: O) [] := MM2.addFresh MM6 hgb hg
  refine st_callM [2, 6] FF4 (d := 6) en_digs rfl rfl (digs_main g (cOf lv3) M rest O hT h0 hsz hs _ (MMg.dropAt 1).hasL (distinct_of (apart_iff.1 (MMg.dropAt 1).apart))) rfl (by kernel_rfl) (by decide) fun ac7 wd7 (FF7 : Fr 7 ac7 [(6, sB (decN M)), (2, sB [])]) hr8 => ?_
  obtain ⟨ob9, ht9⟩ := hr8
  have MM7 : MemS (fun k => k < w0.heap.size ∧ ∀ x ∈ O, x.1 ≠ k) w0 wd7 ((g, ob9) :: (ba, oC #[nv M x] 37) :: O) [] := MMg.turned ht9
  refine rg_part 1 FF7 MM7 [o_] [2] (fun Kt => Kt [(2, sB (decN M))] ((g, ob9) :: (ba, oC #[nv M x] 37) :: O)) (by kernel_rfl) (fun _ => by kernel_rfl) (fun ac9 wd9 FF9 MM9 => ?_)
  refine wpl_nil (then_n ?_)
  refine wp_ret ?_
  repeat first | refine then_ret ?_ | refine inb_ret ?_
  exact (ret_fr FF9 0 Tryd.results37 rfl ⟨rfl, MM9.belowN H (fun _ hx => List.mem_cons_of_mem _ (List.mem_cons_of_mem _ (hx)))⟩)
theorem ntext_any (M : Nat) (x : Value) (hs : qsz M < 1000000) (w : World) (hT : TabIn w) (hM : NatIn w (nv M x) M) : Calls Tryd.prog 37 #[.agg #[nv M x]] w fun e w' => e = .returned (sB (decN M)) ∧ Below w.heap.size w w' := by
  obtain ⟨O1, g1, g2, g3⟩ := tab_O hT
  obtain ⟨O, h1, h2, h3, h4⟩ := nats_O [(nv M x, M)] (fun y hy => by rw [List.mem_singleton] at hy; subst hy; exact hM) O1 g1 g2
  by_cases h0 : M = 0
  · exact ntext_zero O (distinct_of h2) M x (h3.get 0 rfl) hs h0 w h1
  · exact ntext_pos O (distinct_of h2) M x (h3.get 0 rfl) hs (g3.mono h4) h0 w h1
end Go.Proofs.YtlljedijldkcbaaDoor
namespace Go.Proofs.YtlljedijldkcbaaDoor
open Go.RowKit
section
variable {P : Program} {ops : Array Oper} {a : Act} {w0 w w' : World} {Q : Exit → Act → World → Prop} {n : Nat} {l : Slots} {L : Blks} {S : Nat → Prop} {R : List Row} {o : Oper}
theorem mvV {x : Operand} {v : Value} (ho : o.op = .move x) (hx : evO l x = some v) : RunV P l L o v := fun ρ w A _ => by
  simp only [execOp, ho, A x _ hx, Sem.run_pure]
theorem draw_open {id N : Nat} (hm : P.follows .mixedOrders = true) (hN : ops.size = N) (M : MemS S w0 w L R) (K : ∀ w', MemS S w0 w' L R → wpAny P .any ops Q N (Array.replicate N false) a w') : (Code.region id ops true).wp P Q a w := by
  refine wp_region_any hm ?_
  rw [hN]
  exact K _ (M.keep (w' := { w with drawn := w.drawn + 1 }) ⟨rfl, rfl, rfl, Nat.le_refl _, fun _ _ => rfl⟩)
/-- A reckoning that looks at no memory is taken first. -/
theorem take_op (F : Fr n a l) {i : Nat} {oi : Oper} {v : Value} {d fuel : Nat} {listed : Array Bool} (hi : ops[i]? = some oi) (hs : Region.noSelect ops = true) (hf : Region.free .any ops listed i = true) (hr : (Region.ready .any ops listed).contains i = true)
    (hQ : ∀ c a (d : Nat) v w, Q (.panic c) (a.put (some d) v) w → Q (.panic c) a w) (hd : oi.dst = some d) (hn : d < n) (hg : wantOf ops.toList l oi = some true) (hrun : RunV P l [] oi v)
    (K : ∀ a', Fr n a' (upd d v l) → wpAny P .any ops Q fuel (listed.setIfInBounds i true) a' w) : wpAny P .any ops Q (fuel + 1) listed a w := by
  refine wpAny_take hi hs hf hr (fun c a w h => by rw [hd] at h; exact hQ c a d v w h) (.inl ⟨wanted_iff hg F.lk, fun w => hrun a.eval w F.agr (fun k y hy => by simp at hy)⟩) ?_
  rw [hd]
  exact K _ (F.put _ hn)
end
end Go.Proofs.YtlljedijldkcbaaDoor
namespace Go.Proofs.YtlljedijldkcbaaDoor
open Go.RowKit
section
variable {P : Program} {ops : Array Oper} {a : Act} {w0 w w' : World} {Q : Exit → Act → World → Prop} {n : Nat} {l : Slots} {L : Blks} {S : Nat → Prop} {R : List Row} {o : Oper}
/-- What is to hold behind an operation, as what is to hold behind a row. -/
def onN (K : Act → World → Prop) (Q : Exit → Act → World → Prop) : Exit → Act → World → Prop := fun e a w => match e with | .normal => K a w | e => Q e a w
theorem onN_wp {K : Act → World → Prop} (h : o.wp P a w K (onN K Q)) : o.wp P a w K Q := by
  unfold Oper.wp at *
  generalize (execOp a.eval o).run P w = r at h ⊢
  unfold Oper.upon at *
  split <;> simp_all [onN, LetsOut]
/-- One operation, by the laws for rows. -/
theorem op_row {i : Nat} {K : Act → World → Prop} (hi : ops[i]? = some o) (h : wpList P ops (onN K Q) [o] a w) : wpOp P ops Q i K a w := by
  unfold wpOp
  simp only [hi]
  unfold wpList at h
  split
  · rename_i hw
    rw [if_pos hw] at h
    rcases h with h | ⟨h1, h2⟩
    · exact .inl (onN_wp h)
    · exact .inr ⟨h1, h2⟩
  · rename_i hw
    rw [if_neg hw] at h
    exact h
/-- Just one may come up. -/
theorem any_one {i fuel : Nat} {listed : Array Bool} (hr : Region.ready .any ops listed = [i]) (hi : ops[i]? = some o) (h : wpList P ops (onN (wpAny P .any ops Q fuel (listed.setIfInBounds i true)) Q) [o] a w) : wpAny P .any ops Q (fuel + 1) listed a w :=
  wpAny_all hr (by simp) fun k hk => by
    rw [List.mem_singleton] at hk
    subst hk
    exact op_row hi h
/-- One of two. -/
theorem any_two {i j fuel : Nat} {oi oj : Oper} {listed : Array Bool} (hr : Region.ready .any ops listed = [i, j]) (hi : ops[i]? = some oi) (hj : ops[j]? = some oj) (h : wpList P ops (onN (wpAny P .any ops Q fuel (listed.setIfInBounds i true)) Q) [oi] a w) (h2 : wpList P ops (onN (wpAny P .any ops Q fuel (listed.setIfInBounds j true)) Q) [oj] a w) : wpAny P .any ops Q (fuel + 1) listed a w :=
  wpAny_all hr (by simp) fun k hk => by
    simp only [List.mem_cons, List.not_mem_nil, or_false] at hk
    rcases hk with rfl | rfl
    · exact op_row hi h
    · exact op_row hj h2
/-- None is left. -/
theorem any_none {listed : Array Bool} {fuel : Nat} (hr : Region.ready .any ops listed = []) (h : Q .normal a w) : wpAny P .any ops Q fuel listed a w := by
  cases fuel with
  | zero => exact ⟨hr, h⟩
  | succ k => exact ⟨fun _ => h, fun i hi => by rw [hr] at hi; cases hi⟩
theorem nilV {x : Operand} {p : Addr} (ho : o.op = .nilCheck x) (hx : evO l x = some (.pointer (some p))) : RunV P l L o (.pointer (some p)) := fun ρ w A _ => by
  have e1 := A x _ hx
  simp [execOp, ho, e1, go_sem]
theorem fldV {x : Operand} {t k : Nat} {u v : Value} {cs : List Prop} (ho : o.op = .fieldAddr t x k) (hx : evO l x = some u) (hf : aField P t u k = some (v, cs)) : RunV P l L o v := fun ρ w A _ => by
  have e1 := A x _ hx
  have q := run_field (P := P) (w := w) hf
  simp only [execOp, ho, e1, Sem.run_bind, q, Result.andThen_ok, Sem.run_pure]
theorem onN_n {K : Act → World → Prop} (h : K a w) : onN K Q .normal a w := h
/-- A call that turns one block, in whatever list that block stands. -/
theorem callU_turn {f : FuncId} {args : List Value} {v : Value} {g i : Nat} {ob ob' : Obj} (he : Enters P f) (hi : L[i]? = some (g, ob)) (h : ∀ w, w.heap[g]? = some ob → Calls P f args.toArray w fun e w' => e = .returned v ∧ Turn g ob' w w') : CallU P f args L v [(i, ob')] :=
  ⟨he, fun w H => (h w (H i _ hi)).mono fun e w' ⟨h1, t⟩ => ⟨h1, t.os, t.tape, t.output, t.size, fun k hk hn => t.block k hk (fun e => hn _ (List.mem_singleton.2 rfl) (g, ob) hi e.symm), fun _ h => (nomatch h), fun _ => rfl, fun u hu y hy => by
    rw [List.mem_singleton] at hu
    subst hu
    rw [hi] at hy
    obtain rfl := Option.some.inj hy
    exact t.now⟩⟩
theorem MemS.turnAt {g : Nat} {ob ob' : Obj} (M : MemS S w0 w L R) (t : Turn g ob' w w') (i : Nat) (hi : L[i]? = some (g, ob)) : MemS S w0 w' (newL 0 ⟨fun _ => undef, none, [(i, ob')]⟩ L) R :=
  M.post ⟨t.os, t.tape, t.output, t.size, fun k hk hn => t.block k hk (fun e => hn _ (List.mem_singleton.2 rfl) (g, ob) hi e.symm), fun _ h => (nomatch h), fun _ => rfl, fun u hu y hy => by
    rw [List.mem_singleton] at hu
    subst hu
    rw [hi] at hy
    obtain rfl := Option.some.inj hy
    exact t.now⟩
theorem Turn.of_below {g : Nat} {ob : Obj} (hg : w.heap[g]? = some ob) (h : Below w.heap.size w w') : Turn g ob w w' := ⟨h.os, h.tape, h.output, h.size, fun k hk _ => h.block k hk, (h.block g (lt_of_block hg)).trans hg⟩
theorem Turn.trans {w2 : World} {g : Nat} {ob ob' : Obj} (t : Turn g ob w w') (t2 : Turn g ob' w' w2) : Turn g ob' w w2 := ⟨t2.os.trans t.os, t2.tape.trans t.tape, t2.output.trans t.output, Nat.le_trans t.size t2.size, fun k hk hne => (t2.block k (Nat.lt_of_lt_of_le hk t.size) hne).trans (t.block k hk hne), t2.now⟩
/-- A number that a call has made which turned a block. -/
theorem MemS.addNatsT {K O : Blks} {v : Value} {N : Nat} {ns : List (Value × Nat)} (M : MemS S w0 w L R) (M' : MemS S w0 w' (K ++ O) R) (hi : (K ++ O).map (·.1) = L.map (·.1)) (hn : NatNew w.heap.size w' v N) (hN : Nats O ns) : ∃ O', MemS S w0 w' (K ++ O') R ∧ Nats O' ((v, N) :: ns) ∧ ∀ x ∈ O, x ∈ O' := by
  obtain ⟨O', h1, h2, h3⟩ := M'.addNat hn.1 (fun g hg x hx => by
    have h4 : x.1 ∈ L.map (·.1) := hi ▸ List.mem_map_of_mem hx
    obtain ⟨y, hy, e⟩ := List.mem_map.1 h4
    have := lt_of_block (Has.mem M.hasL hy)
    have := hn.2 g hg
    have e : y.1 = x.1 := e
    omega) (fun g hg hs => by have := M.old g hs; have := M.size; have := hn.2 g hg; omega) (fun g hg r hr g' hg' => by have := (ownsRow_lt (M.rows r hr) hg').2; have := hn.2 g hg; omega)
  exact ⟨O', h1, .cons h2 (hN.mono h3), h3⟩
end
end Go.Proofs.YtlljedijldkcbaaDoor
namespace Go.Proofs.YtlljedijldkcbaaDoor
open Go.RowKit
/-- The next n bytes of a tape: its own, then noughts. -/
def takN (n : Nat) (X : List Nat) : List Nat := X.take n ++ List.replicate (n - X.length) 0
theorem takN_len (n : Nat) (X : List Nat) : (takN n X).length = n := by simp [takN]; omega
theorem dropD (X : List Nat) (k i : Nat) : (X.drop k).getD i 0 = X.getD (k + i) 0 := by simp [List.getD_eq_getElem?_getD]
theorem takN_get {n i : Nat} (X : List Nat) (h : i < n) : (takN n X).getD i 0 = X.getD i 0 := by
  rw [takN]
  rcases Nat.lt_or_ge i X.length with h1 | h1
  · rw [getD_app_l _ _ _ (by simp; omega), List.getD_eq_getElem?_getD, List.getElem?_take, if_pos h, List.getD_eq_getElem?_getD]
  · rw [getD_app_r _ _ _ (by simp; omega), rep_get, getD_out h1]
theorem takN_lt {X : List Nat} (hX : ∀ i, X.getD i 0 < 256) (n : Nat) : ∀ i, (takN n X).getD i 0 < 256 := fun i => by
  rcases Nat.lt_or_ge i n with h | h
  · rw [takN_get X h]; exact hX i
  · rw [getD_out (by rw [takN_len]; exact h)]; decide
theorem dropX_min (X : List Nat) (n : Nat) : X.drop (min X.length n) = X.drop n := by
  rcases Nat.le_total X.length n with h | h
  · rw [Nat.min_eq_left h, List.drop_length, List.drop_of_length_le h]
  · rw [Nat.min_eq_right h]
theorem dropX_lt {X : List Nat} (hX : ∀ i, X.getD i 0 < 256) (n : Nat) : ∀ i, (X.drop n).getD i 0 < 256 := fun i => by rw [dropD]; exact hX _
theorem tak_cells (n : Nat) (X : List Nat) : setFrom (cn .u8 (List.replicate n 0)) 0 (bcells (X.take n)) = cn .u8 (takN n X) := by
  apply Array.ext_getElem?
  intro j
  rw [setFrom_get]
  have hb : (bcells (X.take n)).length = min n X.length := by simp [bcells]
  rcases Nat.lt_or_ge j n with h | h
  · rw [show (cn .u8 (takN n X))[j]? = some (iB (X.getD j 0)) by rw [cn_get _ _ _ (by rw [takN_len]; exact h), takN_get X h]]
    by_cases h1 : j < X.length
    · rw [if_pos ⟨Nat.zero_le _, by rw [hb]; omega, by rw [cn_size, List.length_replicate]; exact h⟩]
      simp [bcells, h, List.getD_eq_getElem?_getD, List.getElem?_eq_getElem h1]
    · rw [if_neg (fun q => by have := q.2.1; rw [hb] at this; omega), cn_get _ _ _ (by rw [List.length_replicate]; exact h), rep_get, getD_out (by omega)]
  · rw [if_neg (fun q => by have := q.2.2; rw [cn_size, List.length_replicate] at this; omega), Array.getElem?_eq_none (by rw [cn_size, List.length_replicate]; exact h), Array.getElem?_eq_none (by rw [cn_size, takN_len]; exact h)]
theorem tkI_end (n : Nat) (X : List Nat) : genL n (fun j => X.getD j 0) n = takN n X := by
  refine ext_getD (by rw [genL_len, takN_len]) fun i hi => ?_
  rw [genL_len] at hi
  rw [genL_get _ _ _ hi, if_pos hi, takN_get X hi]
theorem tk_zero {X : List Nat} {n i : Nat} (h : X.length ≤ i) (_hi : i < n) : genL n (fun j => X.getD j 0) (i + 1) = genL n (fun j => X.getD j 0) i := by
  refine ext_getD (by rw [genL_len, genL_len]) fun j hj => ?_
  rw [genL_len] at hj
  rw [genL_get _ _ _ hj, genL_get _ _ _ hj]
  by_cases e : j = i
  · subst e; rw [if_pos (by omega), if_neg (by omega), getD_out h]
  · by_cases h1 : j < i
    · rw [if_pos (by omega), if_pos h1]
    · rw [if_neg (by omega), if_neg h1]
/-- The lowest b bits of the next bytes. -/
def bitN (b : Nat) (X : List Nat) : Nat := leV (takN ((b + 7) / 8) X) % 2 ^ b
theorem mask_last {Y : List Nat} {m c : Nat} (hY : ∀ i, Y.getD i 0 < 256) (hl : Y.length = m + 1) : leV (Y.set m (Y.getD m 0 % 2 ^ c)) = leV Y % 2 ^ (8 * m + c) := by
  have e1 : Y = Y.take m ++ [Y.getD m 0] := by
    refine ext_getD (by simp [hl]) fun i hi => ?_
    rcases Nat.lt_or_ge i m with h | h
    · rw [getD_app_l _ _ _ (by simp; omega), List.getD_eq_getElem?_getD, List.getD_eq_getElem?_getD, List.getElem?_take, if_pos h]
    · obtain rfl : i = m := by omega
      rw [getD_app_r _ _ _ (by simp; omega)]
      simp [hl]
  have hA : leV (Y.take m) < 256 ^ m := leV_take hY m
  have e2 : Y.set m (Y.getD m 0 % 2 ^ c) = Y.take m ++ [Y.getD m 0 % 2 ^ c] := by
    refine ext_getD (by simp [hl]) fun i hi => ?_
    simp only [List.length_set] at hi
    rw [getD_set]
    rcases Nat.lt_or_ge i m with h | h
    · rw [if_neg (by omega), getD_app_l _ _ _ (by simp; omega), List.getD_eq_getElem?_getD, List.getD_eq_getElem?_getD, List.getElem?_take, if_pos h]
    · obtain rfl : m = i := by omega
      rw [if_pos ⟨rfl, by omega⟩, getD_app_r _ _ _ (by simp; omega)]
      simp [hl]
  have e3 : ∀ y, leV (Y.take m ++ [y]) = leV (Y.take m) + 256 ^ m * y := fun y => by
    rw [leV_app]; simp [leV, hl]
  have ep : 2 ^ (8 * m + c) = 256 ^ m * 2 ^ c := by rw [Nat.pow_add, Nat.pow_mul]
  have hv : leV Y = leV (Y.take m) + 256 ^ m * Y.getD m 0 := (congrArg leV e1).trans (e3 _)
  rw [e2, e3, hv, ep, Nat.mod_mul, Nat.add_mul_mod_self_left, Nat.mod_eq_of_lt hA, Nat.add_mul_div_left _ _ (Nat.pow_pos (by decide)), Nat.div_eq_of_lt hA, Nat.zero_add]
theorem and_shr {x k : Nat} (hk : k ≤ 7) : x &&& 255 / 2 ^ k = x % 2 ^ (8 - k) := by
  have e : 255 / 2 ^ k = 2 ^ (8 - k) - 1 := by
    have : ∀ k : Fin 8, 255 / 2 ^ k.val = 2 ^ (8 - k.val) - 1 := by decide
    exact this ⟨k, by omega⟩
  rw [e]; exact Nat.and_two_pow_sub_one_eq_mod x (8 - k)
theorem bit_tape {X : List Nat} {b : Nat} (hX : ∀ i, X.getD i 0 < 256) (hb : 1 ≤ b) : leV ((takN ((b + 7) / 8) X).set ((b + 7) / 8 - 1) ((takN ((b + 7) / 8) X).getD ((b + 7) / 8 - 1) 0 &&& 255 / 2 ^ (8 * ((b + 7) / 8) - b))) = bitN b X := by
  rw [and_shr (by omega)]
  have := mask_last (Y := takN ((b + 7) / 8) X) (m := (b + 7) / 8 - 1) (c := 8 - (8 * ((b + 7) / 8) - b)) (takN_lt hX _) (by rw [takN_len]; omega)
  rw [this, bitN]
  congr 2; omega
theorem bit_ref0 {X : List Nat} {b : Nat} (hX : ∀ i, X.getD i 0 < 256) (hb : b % 8 = 0) : leV (takN ((b + 7) / 8) X) = bitN b X := by
  rw [bitN, Nat.mod_eq_of_lt]
  have := leV_lt (takN ((b + 7) / 8) X) (takN_lt hX _)
  rw [takN_len, show 256 = 2 ^ 8 by rfl, ← Nat.pow_mul, show 8 * ((b + 7) / 8) = b by omega] at this
  exact this
theorem bit_ref {X : List Nat} {b : Nat} (hX : ∀ i, X.getD i 0 < 256) (hb : b % 8 ≠ 0) : leV ((takN ((b + 7) / 8) X).set ((b + 7) / 8 - 1) ((takN ((b + 7) / 8) X).getD ((b + 7) / 8 - 1) 0 &&& ((1 * 2 ^ (b % 8) % 256 + (256 - 1)) % 256))) = bitN b X := by
  have e : (1 * 2 ^ (b % 8) % 256 + (256 - 1)) % 256 = 2 ^ (b % 8) - 1 := by
    have : ∀ k : Fin 8, k.val ≠ 0 → (1 * 2 ^ k.val % 256 + (256 - 1)) % 256 = 2 ^ k.val - 1 := by decide
    exact this ⟨b % 8, by omega⟩ hb
  rw [e, Nat.and_two_pow_sub_one_eq_mod]
  have := mask_last (Y := takN ((b + 7) / 8) X) (m := (b + 7) / 8 - 1) (c := b % 8) (takN_lt hX _) (by rw [takN_len]; omega)
  rw [this, bitN]
  congr 2; omega
theorem bitN_lt (b : Nat) (X : List Nat) : bitN b X < 2 ^ b := Nat.mod_lt _ (Nat.pow_pos (by decide))
/-- What is drawn under W by k tries, s bytes each. -/
def undN (W b : Nat) : Nat → List Nat → Nat × Nat × Nat
  | 0, _ => (0, 3, 0)
  | k + 1, X => if bitN b X < W then (bitN b X, 0, (b + 7) / 8) else ((undN W b k (X.drop ((b + 7) / 8))).1, (undN W b k (X.drop ((b + 7) / 8))).2.1, (b + 7) / 8 + (undN W b k (X.drop ((b + 7) / 8))).2.2)
def UndI (W b k : Nat) (X : List Nat) (i : Nat) : Prop := undN W b k X = ((undN W b (k - i) (X.drop ((b + 7) / 8 * i))).1, (undN W b (k - i) (X.drop ((b + 7) / 8 * i))).2.1, (b + 7) / 8 * i + (undN W b (k - i) (X.drop ((b + 7) / 8 * i))).2.2)
theorem und_start (W b k : Nat) (X : List Nat) : UndI W b k X 0 := by unfold UndI; simp
theorem und_no {W b k i : Nat} {X : List Nat} (h : UndI W b k X i) (hi : i < k) (hv : ¬ bitN b (X.drop ((b + 7) / 8 * i)) < W) : UndI W b k X (i + 1) := by
  unfold UndI at *
  obtain ⟨m, hm⟩ : ∃ m, k - i = m + 1 := ⟨k - i - 1, by omega⟩
  rw [hm] at h
  rw [show k - (i + 1) = m by omega, h]
  simp only [undN, if_neg hv, List.drop_drop, Nat.mul_add, Nat.mul_one]
  simp only [Nat.add_assoc]
theorem und_yes {W b k i : Nat} {X : List Nat} (h : UndI W b k X i) (hi : i < k) (hv : bitN b (X.drop ((b + 7) / 8 * i)) < W) : undN W b k X = (bitN b (X.drop ((b + 7) / 8 * i)), 0, (b + 7) / 8 * i + (b + 7) / 8) := by
  unfold UndI at h
  obtain ⟨m, hm⟩ : ∃ m, k - i = m + 1 := ⟨k - i - 1, by omega⟩
  rw [hm] at h
  rw [h]
  simp only [undN, if_pos hv]
theorem und_end {W b k : Nat} {X : List Nat} (h : UndI W b k X k) : undN W b k X = (0, 3, (b + 7) / 8 * k) := by
  unfold UndI at h
  rw [h, Nat.sub_self]
  rfl
theorem und_bd (W b : Nat) : ∀ (k : Nat) (X : List Nat), (undN W b k X).2.2 ≤ (b + 7) / 8 * k
  | 0, _ => Nat.le_refl _
  | k + 1, X => by
    have := und_bd W b k (X.drop ((b + 7) / 8))
    simp only [undN]
    rw [Nat.mul_succ]
    split <;> simp only <;> omega
theorem und_lt {W b : Nat} (hW : W < 2 ^ b) : ∀ (k : Nat) (X : List Nat), (undN W b k X).1 < 2 ^ b
  | 0, _ => Nat.pow_pos (by decide)
  | k + 1, X => by
    simp only [undN]
    split
    · exact bitN_lt b X
    · exact und_lt hW k _
end Go.Proofs.YtlljedijldkcbaaDoor
namespace Go.Proofs.YtlljedijldkcbaaDoor
open Go.RowKit
theorem en_tnew : Enters Tryd.prog 25 := fun args w => by simp [go_sem]
theorem en_take : Enters Tryd.prog 77 := fun args w => by simp [go_sem]
theorem en_tused : Enters Tryd.prog 28 := fun args w => by simp [go_sem]
theorem en_tunder : Enters Tryd.prog 47 := fun args w => by simp [go_sem]
theorem en_maybe : Enters Tryd.prog 61 := fun args w => by simp [go_sem]
theorem en_tbits : Enters Tryd.prog 62 := fun args w => by simp [go_sem]
/-- A tape: the bytes that are left, how many were taken. -/
abbrev TB (X : List Nat) (u : Nat) : Obj := .cells #[sB X, iN u] 81
set_option maxRecDepth 100000 in
theorem take_any (g n : Nat) (X : List Nat) (u : Nat) (hX : ∀ i, X.getD i 0 < 256) (hu : u < 4611686018427387904) (hn : n ≤ 65536) (w0 : World) (hg : w0.heap[g]? = some (TB X u)) :
    Calls Tryd.prog 77 #[pT g, iN n] w0 fun e w' => e = .returned (sB (takN n X)) ∧ Turn g (TB (X.drop n) (u + n)) w0 w' := by
  refine enter_fr Tryd.func77 rfl Tryd.ntmps77 (by simp) fun ac (FF : Fr 42 ac [(0, pT g), (1, iN n)]) => ?_
  have MM : MemS (fun k => k < w0.heap.size ∧ ∀ x ∈ (g, oC #[sB X, iN u] 81) :: ([] : Blks), x.1 ≠ k) w0 w0 ((g, oC #[sB X, iN u] 81) :: ([] : Blks)) [] := MemS.startN (one_has hg) ⟨fun y hy => (nomatch hy), trivial⟩
  refine wp_seq (rg_seq FF MM [o_] [0, 1, 4] (fun Kt => Kt [(4, sB []), (0, pT g), (1, iN n)] ((g, oC #[sB X, iN u] 81) :: ([] : Blks))) (by kernel_rfl) (fun _ => by kernel_rfl) (fun ac1 wd1 FF1 MM1 => then_n ?_))
  refine wp_seq ?_
  refine wp_seq (rg_seq FF1 MM1 [o_, f_ (.bool false), o_, o_, w_ 3, o_, o_, o_, w_ 3, o_] [4, 0, 1, 15] (fun Kt => RunV Tryd.prog [(6, pT g), (4, sB []), (0, pT g), (1, iN n)] ((g, oC #[sB X, iN u] 81) :: ([] : Blks)) (opAt Tryd.f77 1 1) (.bool false) ∧ ¬ (n < 0) ∧ ¬ (n > 65536) ∧ Kt [(15, .bool false), (4, sB []), (0, pT g), (1, iN n)] ((g, oC #[sB X, iN u] 81) :: ([] : Blks))) (by kernel_rfl) (fun _ => by kernel_rfl) (⟨(ptrSome_ok (t := 48) (t' := 48) (x := (.tmp 6)) (y := (.const (.pointer none))) (by kernel_rfl) rfl rfl Tryd.underlying48), (by have := hn; omega), (by have := hn; omega), fun ac2 wd2 FF2 MM2 => then_n ?_⟩))
  refine wp_cond_false (FF2.ev 0 rfl) ?_
  refine wp_skip ?_
  refine then_n ?_
  refine wp_seq (rg_seq FF2 MM2 [o_, n_ (.slice none n n) (.cells (cn .u8 (List.replicate n 0)) 5), o_] [4, 0, 1, 5] (fun Kt => RunN Tryd.prog [(16, iN n), (15, .bool false), (4, sB []), (0, pT g), (1, iN n)] ((g, oC #[sB X, iN u] 81) :: ([] : Blks)) (opAt Tryd.f77 3 1) (mkOf (.slice none n n)) (.cells (cn .u8 (List.replicate n 0)) 5) ∧ ∀ bo, Kt [(5, .slice (some ⟨bo, 0, none⟩) n n), (4, sB []), (0, pT g), (1, iN n)] ((bo, .cells (cn .u8 (List.replicate n 0)) 5) :: (g, oC #[sB X, iN u] 81) :: ([] : Blks))) (by kernel_rfl) (fun _ => by kernel_rfl) (⟨(make_ok (t := 67) (e := 5) (p := (.tmp 16)) (q := (.tmp 16)) (by kernel_rfl) rfl rfl Tryd.underlying67 (by kernel_rfl) (by have := hn; omega)), fun bo => fun ac3 wd3 FF3 MM3 => then_n ?_⟩))
  refine wp_mid (fun a' w' => Fr 42 a' [(5, .slice (some ⟨bo, 0, none⟩) n n), (4, sB []), (0, pT g), (1, iN n)] ∧ MemS (fun k => k < w0.heap.size ∧ ∀ x ∈ (g, oC #[sB X, iN u] 81) :: ([] : Blks), x.1 ≠ k) w0 w' ((bo, .cells (cn .u8 (takN n X)) 5) :: (g, oC #[sB (X.drop n), iN u] 81) :: ([] : Blks)) []) ?_ ?_
  · skip
    refine draw_open (N := 15) (by kernel_rfl) (by kernel_rfl) MM3 fun wq4 (MM5 : MemS (fun k => k < w0.heap.size ∧ ∀ x ∈ (g, oC #[sB X, iN u] 81) :: ([] : Blks), x.1 ≠ k) w0 wq4 ((bo, .cells (cn .u8 (List.replicate n 0)) 5) :: (g, oC #[sB X, iN u] 81) :: ([] : Blks)) []) => ?_
    refine take_op FF3 (i := 0) (oi := (opAt Tryd.f77 4 0)) (v := (pT g)) (d := 18) (by kernel_rfl) (by kernel_rfl) (by kernel_rfl) (by kernel_rfl) (fun _ _ _ _ _ h => h) (by kernel_rfl) (by decide) (by kernel_rfl) (mvV (x := (.tmp 0)) (by kernel_rfl) rfl) fun ac6 FF6 => ?_
    refine take_op FF6 (i := 1) (oi := (opAt Tryd.f77 4 1)) (v := (pT g)) (d := 19) (by kernel_rfl) (by kernel_rfl) (by kernel_rfl) (by kernel_rfl) (fun _ _ _ _ _ h => h) (by kernel_rfl) (by decide) (by kernel_rfl) (mvV (x := (.tmp 0)) (by kernel_rfl) rfl) fun ac7 FF7 => ?_
    refine take_op FF7 (i := 2) (oi := (opAt Tryd.f77 4 2)) (v := (pT g)) (d := 20) (by kernel_rfl) (by kernel_rfl) (by kernel_rfl) (by kernel_rfl) (fun _ _ _ _ _ h => h) (by kernel_rfl) (by decide) (by kernel_rfl) (nilV (x := (.tmp 19)) (by kernel_rfl) rfl) fun ac8 FF8 => ?_
    refine take_op FF8 (i := 3) (oi := (opAt Tryd.f77 4 3)) (v := (pT g)) (d := 21) (by kernel_rfl) (by kernel_rfl) (by kernel_rfl) (by kernel_rfl) (fun _ _ _ _ _ h => h) (by kernel_rfl) (by decide) (by kernel_rfl) (fldV (x := (.tmp 20)) (t := 81) (k := 0) (cs := []) (by kernel_rfl) rfl (by kernel_rfl)) fun ac9 FF9 => ?_
    refine take_op FF9 (i := 5) (oi := (opAt Tryd.f77 4 5)) (v := (.slice (some ⟨bo, 0, none⟩) n n)) (d := 23) (by kernel_rfl) (by kernel_rfl) (by kernel_rfl) (by kernel_rfl) (fun _ _ _ _ _ h => h) (by kernel_rfl) (by decide) (by kernel_rfl) (mvV (x := (.tmp 5)) (by kernel_rfl) rfl) fun ac10 FF10 => ?_
    refine take_op FF10 (i := 6) (oi := (opAt Tryd.f77 4 6)) (v := (pT g)) (d := 24) (by kernel_rfl) (by kernel_rfl) (by kernel_rfl) (by kernel_rfl) (fun _ _ _ _ _ h => h) (by kernel_rfl) (by decide) (by kernel_rfl) (mvV (x := (.tmp 0)) (by kernel_rfl) rfl) fun ac11 FF11 => ?_
    refine take_op FF11 (i := 7) (oi := (opAt Tryd.f77 4 7)) (v := (pT g)) (d := 25) (by kernel_rfl) (by kernel_rfl) (by kernel_rfl) (by kernel_rfl) (fun _ _ _ _ _ h => h) (by kernel_rfl) (by decide) (by kernel_rfl) (nilV (x := (.tmp 24)) (by kernel_rfl) rfl) fun ac12 FF12 => ?_
    refine take_op FF12 (i := 8) (oi := (opAt Tryd.f77 4 8)) (v := (pT g)) (d := 26) (by kernel_rfl) (by kernel_rfl) (by kernel_rfl) (by kernel_rfl) (fun _ _ _ _ _ h => h) (by kernel_rfl) (by decide) (by kernel_rfl) (fldV (x := (.tmp 25)) (t := 81) (k := 0) (cs := []) (by kernel_rfl) rfl (by kernel_rfl)) fun ac13 FF13 => ?_
    refine any_two (i := 4) (oi := (opAt Tryd.f77 4 4)) (j := 9) (oj := (opAt Tryd.f77 4 9)) (by kernel_rfl) (by kernel_rfl) (by kernel_rfl) ?_ ?_
    · skip
      refine rg_part 1 FF13 MM5 [l_ 1 (sB X)] [26, 23, 18, 5, 4, 0, 1, 22] (fun Kt => g = g ∧ (#[sB X, iN u] : Array Value)[0]? = some (sB X) ∧ Kt [(22, sB X), (26, pT g), (23, .slice (some ⟨bo, 0, none⟩) n n), (18, pT g), (5, .slice (some ⟨bo, 0, none⟩) n n), (4, sB []), (0, pT g), (1, iN n)] ((bo, .cells (cn .u8 (List.replicate n 0)) 5) :: (g, oC #[sB X, iN u] 81) :: ([] : Blks))) (by kernel_rfl) (fun _ => by kernel_rfl) (⟨rfl, rfl, fun ac14 wd14 FF14 MM14 => ?_⟩)
      refine wpl_nil (onN_n ?_)
      refine any_one (i := 9) (o := (opAt Tryd.f77 4 9)) (by kernel_rfl) (by kernel_rfl) ?_
      refine rg_part 1 FF14 MM14 [l_ 1 (sB X)] [22, 23, 18, 5, 4, 0, 1, 27] (fun Kt => g = g ∧ (#[sB X, iN u] : Array Value)[0]? = some (sB X) ∧ Kt [(27, sB X), (22, sB X), (23, .slice (some ⟨bo, 0, none⟩) n n), (18, pT g), (5, .slice (some ⟨bo, 0, none⟩) n n), (4, sB []), (0, pT g), (1, iN n)] ((bo, .cells (cn .u8 (List.replicate n 0)) 5) :: (g, oC #[sB X, iN u] 81) :: ([] : Blks))) (by kernel_rfl) (fun _ => by kernel_rfl) (⟨rfl, rfl, fun ac15 wd15 FF15 MM15 => ?_⟩)
      refine wpl_nil (onN_n ?_)
      refine any_one (i := 10) (o := (opAt Tryd.f77 4 10)) (by kernel_rfl) (by kernel_rfl) ?_
      refine rg_part 1 FF15 MM15 [r_ (iN (min X.length n)) [(0, .cells (cn .u8 (takN n X)) 5)]] [22, 18, 5, 4, 0, 1, 28] (fun Kt => RunU Tryd.prog [(27, sB X), (22, sB X), (23, .slice (some ⟨bo, 0, none⟩) n n), (18, pT g), (5, .slice (some ⟨bo, 0, none⟩) n n), (4, sB []), (0, pT g), (1, iN n)] ((bo, .cells (cn .u8 (List.replicate n 0)) 5) :: (g, oC #[sB X, iN u] 81) :: ([] : Blks)) (opAt Tryd.f77 4 10) (iN (min X.length n)) [(0, .cells (cn .u8 (takN n X)) 5)] ∧ Kt [(28, iN (min X.length n)), (22, sB X), (18, pT g), (5, .slice (some ⟨bo, 0, none⟩) n n), (4, sB []), (0, pT g), (1, iN n)] ((bo, .cells (cn .u8 (takN n X)) 5) :: (g, oC #[sB X, iN u] 81) :: ([] : Blks))) (by kernel_rfl) (fun _ => by kernel_rfl) (⟨(copyStr_ok (p := .tmp 23) (q := .tmp 27) (t := 67) (tq := 9) (e := 5) (T := 5) (off := 0) (len := n) (X := X) (cs := cn .u8 (List.replicate n 0)) (i := 0) (by kernel_rfl) rfl rfl hX Tryd.underlying67 (by kernel_rfl) rfl (by rw [cn_size, List.length_replicate, Nat.zero_add]; exact Nat.le_refl _) (tak_cells n X)), fun ac16 wd16 FF16 MM16 => ?_⟩)
      refine wpl_nil (onN_n ?_)
      refine any_one (i := 11) (o := (opAt Tryd.f77 4 11)) (by kernel_rfl) (by kernel_rfl) ?_
      refine rg_part 1 FF16 MM16 [t_ (sB (X.drop n))] [18, 5, 4, 0, 1, 29] (fun Kt => (min X.length n) ≤ (bs X).size ∧ 0 ≤ (bs X).size ∧ Value.string ((bs X).extract (min X.length n) (bs X).size) = sB (X.drop n) ∧ Kt [(29, sB (X.drop n)), (18, pT g), (5, .slice (some ⟨bo, 0, none⟩) n n), (4, sB []), (0, pT g), (1, iN n)] ((bo, .cells (cn .u8 (takN n X)) 5) :: (g, oC #[sB X, iN u] 81) :: ([] : Blks))) (by kernel_rfl) (fun _ => by kernel_rfl) (⟨(by simp only [bs_size]; omega), (Nat.zero_le _), (vS2 ((bs_from _ _).trans (congrArg bs (dropX_min X n)))), fun ac17 wd17 FF17 MM17 => ?_⟩)
      refine wpl_nil (onN_n ?_)
      refine take_op FF17 (i := 12) (oi := (opAt Tryd.f77 4 12)) (v := (pT g)) (d := 30) (by kernel_rfl) (by kernel_rfl) (by kernel_rfl) (by kernel_rfl) (fun _ _ _ _ _ h => h) (by kernel_rfl) (by decide) (by kernel_rfl) (nilV (x := (.tmp 18)) (by kernel_rfl) rfl) fun ac18 FF18 => ?_
      refine take_op FF18 (i := 13) (oi := (opAt Tryd.f77 4 13)) (v := (pT g)) (d := 31) (by kernel_rfl) (by kernel_rfl) (by kernel_rfl) (by kernel_rfl) (fun _ _ _ _ _ h => h) (by kernel_rfl) (by decide) (by kernel_rfl) (fldV (x := (.tmp 30)) (t := 81) (k := 0) (cs := []) (by kernel_rfl) rfl (by kernel_rfl)) fun ac19 FF19 => ?_
      refine any_one (i := 14) (o := (opAt Tryd.f77 4 14)) (by kernel_rfl) (by kernel_rfl) ?_
      refine rg_part 1 FF19 MM17 [s_ 1 (oC #[sB (X.drop n), iN u] 81)] [5, 4, 0, 1] (fun Kt => g = g ∧ 0 < (#[sB X, iN u] : Array Value).size ∧ (((0, 0)).2 = 0 ∨ 0 < ((0, 0)).1) ∧ (#[sB X, iN u] : Array Value).setIfInBounds 0 (sB (X.drop n)) = #[sB (X.drop n), iN u] ∧ Kt [(5, .slice (some ⟨bo, 0, none⟩) n n), (4, sB []), (0, pT g), (1, iN n)] ((bo, .cells (cn .u8 (takN n X)) 5) :: (g, oC #[sB (X.drop n), iN u] 81) :: ([] : Blks))) (by kernel_rfl) (fun _ => by kernel_rfl) (⟨rfl, (by simp), (.inl rfl), rfl, fun ac20 wd20 FF20 MM20 => ?_⟩)
      refine wpl_nil (onN_n ?_)
      refine any_none (by kernel_rfl) (then_n ?_)
      exact ⟨FF20.pick [0, 1, 2, 3], MM20⟩
    · skip
      refine rg_part 1 FF13 MM5 [l_ 1 (sB X)] [23, 21, 18, 5, 4, 0, 1, 27] (fun Kt => g = g ∧ (#[sB X, iN u] : Array Value)[0]? = some (sB X) ∧ Kt [(27, sB X), (23, .slice (some ⟨bo, 0, none⟩) n n), (21, pT g), (18, pT g), (5, .slice (some ⟨bo, 0, none⟩) n n), (4, sB []), (0, pT g), (1, iN n)] ((bo, .cells (cn .u8 (List.replicate n 0)) 5) :: (g, oC #[sB X, iN u] 81) :: ([] : Blks))) (by kernel_rfl) (fun _ => by kernel_rfl) (⟨rfl, rfl, fun ac21 wd21 FF21 MM21 => ?_⟩)
      refine wpl_nil (onN_n ?_)
      refine any_two (i := 4) (oi := (opAt Tryd.f77 4 4)) (j := 10) (oj := (opAt Tryd.f77 4 10)) (by kernel_rfl) (by kernel_rfl) (by kernel_rfl) ?_ ?_
      · skip
        refine rg_part 1 FF21 MM21 [l_ 1 (sB X)] [27, 23, 18, 5, 4, 0, 1, 22] (fun Kt => g = g ∧ (#[sB X, iN u] : Array Value)[0]? = some (sB X) ∧ Kt [(22, sB X), (27, sB X), (23, .slice (some ⟨bo, 0, none⟩) n n), (18, pT g), (5, .slice (some ⟨bo, 0, none⟩) n n), (4, sB []), (0, pT g), (1, iN n)] ((bo, .cells (cn .u8 (List.replicate n 0)) 5) :: (g, oC #[sB X, iN u] 81) :: ([] : Blks))) (by kernel_rfl) (fun _ => by kernel_rfl) (⟨rfl, rfl, fun ac22 wd22 FF22 MM22 => ?_⟩)
        refine wpl_nil (onN_n ?_)
        refine any_one (i := 10) (o := (opAt Tryd.f77 4 10)) (by kernel_rfl) (by kernel_rfl) ?_
        refine rg_part 1 FF22 MM22 [r_ (iN (min X.length n)) [(0, .cells (cn .u8 (takN n X)) 5)]] [22, 18, 5, 4, 0, 1, 28] (fun Kt => RunU Tryd.prog [(22, sB X), (27, sB X), (23, .slice (some ⟨bo, 0, none⟩) n n), (18, pT g), (5, .slice (some ⟨bo, 0, none⟩) n n), (4, sB []), (0, pT g), (1, iN n)] ((bo, .cells (cn .u8 (List.replicate n 0)) 5) :: (g, oC #[sB X, iN u] 81) :: ([] : Blks)) (opAt Tryd.f77 4 10) (iN (min X.length n)) [(0, .cells (cn .u8 (takN n X)) 5)] ∧ Kt [(28, iN (min X.length n)), (22, sB X), (18, pT g), (5, .slice (some ⟨bo, 0, none⟩) n n), (4, sB []), (0, pT g), (1, iN n)] ((bo, .cells (cn .u8 (takN n X)) 5) :: (g, oC #[sB X, iN u] 81) :: ([] : Blks))) (by kernel_rfl) (fun _ => by kernel_rfl) (⟨(copyStr_ok (p := .tmp 23) (q := .tmp 27) (t := 67) (tq := 9) (e := 5) (T := 5) (off := 0) (len := n) (X := X) (cs := cn .u8 (List.replicate n 0)) (i := 0) (by kernel_rfl) rfl rfl hX Tryd.underlying67 (by kernel_rfl) rfl (by rw [cn_size, List.length_replicate, Nat.zero_add]; exact Nat.le_refl _) (tak_cells n X)), fun ac23 wd23 FF23 MM23 => ?_⟩)
        refine wpl_nil (onN_n ?_)
        refine any_one (i := 11) (o := (opAt Tryd.f77 4 11)) (by kernel_rfl) (by kernel_rfl) ?_
        refine rg_part 1 FF23 MM23 [t_ (sB (X.drop n))] [18, 5, 4, 0, 1, 29] (fun Kt => (min X.length n) ≤ (bs X).size ∧ 0 ≤ (bs X).size ∧ Value.string ((bs X).extract (min X.length n) (bs X).size) = sB (X.drop n) ∧ Kt [(29, sB (X.drop n)), (18, pT g), (5, .slice (some ⟨bo, 0, none⟩) n n), (4, sB []), (0, pT g), (1, iN n)] ((bo, .cells (cn .u8 (takN n X)) 5) :: (g, oC #[sB X, iN u] 81) :: ([] : Blks))) (by kernel_rfl) (fun _ => by kernel_rfl) (⟨(by simp only [bs_size]; omega), (Nat.zero_le _), (vS2 ((bs_from _ _).trans (congrArg bs (dropX_min X n)))), fun ac24 wd24 FF24 MM24 => ?_⟩)
        refine wpl_nil (onN_n ?_)
        refine take_op FF24 (i := 12) (oi := (opAt Tryd.f77 4 12)) (v := (pT g)) (d := 30) (by kernel_rfl) (by kernel_rfl) (by kernel_rfl) (by kernel_rfl) (fun _ _ _ _ _ h => h) (by kernel_rfl) (by decide) (by kernel_rfl) (nilV (x := (.tmp 18)) (by kernel_rfl) rfl) fun ac25 FF25 => ?_
        refine take_op FF25 (i := 13) (oi := (opAt Tryd.f77 4 13)) (v := (pT g)) (d := 31) (by kernel_rfl) (by kernel_rfl) (by kernel_rfl) (by kernel_rfl) (fun _ _ _ _ _ h => h) (by kernel_rfl) (by decide) (by kernel_rfl) (fldV (x := (.tmp 30)) (t := 81) (k := 0) (cs := []) (by kernel_rfl) rfl (by kernel_rfl)) fun ac26 FF26 => ?_
        refine any_one (i := 14) (o := (opAt Tryd.f77 4 14)) (by kernel_rfl) (by kernel_rfl) ?_
        refine rg_part 1 FF26 MM24 [s_ 1 (oC #[sB (X.drop n), iN u] 81)] [5, 4, 0, 1] (fun Kt => g = g ∧ 0 < (#[sB X, iN u] : Array Value).size ∧ (((0, 0)).2 = 0 ∨ 0 < ((0, 0)).1) ∧ (#[sB X, iN u] : Array Value).setIfInBounds 0 (sB (X.drop n)) = #[sB (X.drop n), iN u] ∧ Kt [(5, .slice (some ⟨bo, 0, none⟩) n n), (4, sB []), (0, pT g), (1, iN n)] ((bo, .cells (cn .u8 (takN n X)) 5) :: (g, oC #[sB (X.drop n), iN u] 81) :: ([] : Blks))) (by kernel_rfl) (fun _ => by kernel_rfl) (⟨rfl, (by simp), (.inl rfl), rfl, fun ac27 wd27 FF27 MM27 => ?_⟩)
        refine wpl_nil (onN_n ?_)
        refine any_none (by kernel_rfl) (then_n ?_)
        exact ⟨FF27.pick [0, 1, 2, 3], MM27⟩
      · skip
        refine rg_part 1 FF21 MM21 [r_ (iN (min X.length n)) [(0, .cells (cn .u8 (takN n X)) 5)]] [21, 18, 5, 4, 0, 1, 28] (fun Kt => RunU Tryd.prog [(27, sB X), (23, .slice (some ⟨bo, 0, none⟩) n n), (21, pT g), (18, pT g), (5, .slice (some ⟨bo, 0, none⟩) n n), (4, sB []), (0, pT g), (1, iN n)] ((bo, .cells (cn .u8 (List.replicate n 0)) 5) :: (g, oC #[sB X, iN u] 81) :: ([] : Blks)) (opAt Tryd.f77 4 10) (iN (min X.length n)) [(0, .cells (cn .u8 (takN n X)) 5)] ∧ Kt [(28, iN (min X.length n)), (21, pT g), (18, pT g), (5, .slice (some ⟨bo, 0, none⟩) n n), (4, sB []), (0, pT g), (1, iN n)] ((bo, .cells (cn .u8 (takN n X)) 5) :: (g, oC #[sB X, iN u] 81) :: ([] : Blks))) (by kernel_rfl) (fun _ => by kernel_rfl) (⟨(copyStr_ok (p := .tmp 23) (q := .tmp 27) (t := 67) (tq := 9) (e := 5) (T := 5) (off := 0) (len := n) (X := X) (cs := cn .u8 (List.replicate n 0)) (i := 0) (by kernel_rfl) rfl rfl hX Tryd.underlying67 (by kernel_rfl) rfl (by rw [cn_size, List.length_replicate, Nat.zero_add]; exact Nat.le_refl _) (tak_cells n X)), fun ac28 wd28 FF28 MM28 => ?_⟩)
        refine wpl_nil (onN_n ?_)
        refine any_one (i := 4) (o := (opAt Tryd.f77 4 4)) (by kernel_rfl) (by kernel_rfl) ?_
        refine rg_part 1 FF28 MM28 [l_ 1 (sB X)] [28, 18, 5, 4, 0, 1, 22] (fun Kt => g = g ∧ (#[sB X, iN u] : Array Value)[0]? = some (sB X) ∧ Kt [(22, sB X), (28, iN (min X.length n)), (18, pT g), (5, .slice (some ⟨bo, 0, none⟩) n n), (4, sB []), (0, pT g), (1, iN n)] ((bo, .cells (cn .u8 (takN n X)) 5) :: (g, oC #[sB X, iN u] 81) :: ([] : Blks))) (by kernel_rfl) (fun _ => by kernel_rfl) (⟨rfl, rfl, fun ac29 wd29 FF29 MM29 => ?_⟩)
        refine wpl_nil (onN_n ?_)
        refine any_one (i := 11) (o := (opAt Tryd.f77 4 11)) (by kernel_rfl) (by kernel_rfl) ?_
        refine rg_part 1 FF29 MM29 [t_ (sB (X.drop n))] [18, 5, 4, 0, 1, 29] (fun Kt => (min X.length n) ≤ (bs X).size ∧ 0 ≤ (bs X).size ∧ Value.string ((bs X).extract (min X.length n) (bs X).size) = sB (X.drop n) ∧ Kt [(29, sB (X.drop n)), (18, pT g), (5, .slice (some ⟨bo, 0, none⟩) n n), (4, sB []), (0, pT g), (1, iN n)] ((bo, .cells (cn .u8 (takN n X)) 5) :: (g, oC #[sB X, iN u] 81) :: ([] : Blks))) (by kernel_rfl) (fun _ => by kernel_rfl) (⟨(by simp only [bs_size]; omega), (Nat.zero_le _), (vS2 ((bs_from _ _).trans (congrArg bs (dropX_min X n)))), fun ac30 wd30 FF30 MM30 => ?_⟩)
        refine wpl_nil (onN_n ?_)
        refine take_op FF30 (i := 12) (oi := (opAt Tryd.f77 4 12)) (v := (pT g)) (d := 30) (by kernel_rfl) (by kernel_rfl) (by kernel_rfl) (by kernel_rfl) (fun _ _ _ _ _ h => h) (by kernel_rfl) (by decide) (by kernel_rfl) (nilV (x := (.tmp 18)) (by kernel_rfl) rfl) fun ac31 FF31 => ?_
        refine take_op FF31 (i := 13) (oi := (opAt Tryd.f77 4 13)) (v := (pT g)) (d := 31) (by kernel_rfl) (by kernel_rfl) (by kernel_rfl) (by kernel_rfl) (fun _ _ _ _ _ h => h) (by kernel_rfl) (by decide) (by kernel_rfl) (fldV (x := (.tmp 30)) (t := 81) (k := 0) (cs := []) (by kernel_rfl) rfl (by kernel_rfl)) fun ac32 FF32 => ?_
        refine any_one (i := 14) (o := (opAt Tryd.f77 4 14)) (by kernel_rfl) (by kernel_rfl) ?_
        refine rg_part 1 FF32 MM30 [s_ 1 (oC #[sB (X.drop n), iN u] 81)] [5, 4, 0, 1] (fun Kt => g = g ∧ 0 < (#[sB X, iN u] : Array Value).size ∧ (((0, 0)).2 = 0 ∨ 0 < ((0, 0)).1) ∧ (#[sB X, iN u] : Array Value).setIfInBounds 0 (sB (X.drop n)) = #[sB (X.drop n), iN u] ∧ Kt [(5, .slice (some ⟨bo, 0, none⟩) n n), (4, sB []), (0, pT g), (1, iN n)] ((bo, .cells (cn .u8 (takN n X)) 5) :: (g, oC #[sB (X.drop n), iN u] 81) :: ([] : Blks))) (by kernel_rfl) (fun _ => by kernel_rfl) (⟨rfl, (by simp), (.inl rfl), rfl, fun ac33 wd33 FF33 MM33 => ?_⟩)
        refine wpl_nil (onN_n ?_)
        refine any_none (by kernel_rfl) (then_n ?_)
        exact ⟨FF33.pick [0, 1, 2, 3], MM33⟩
  · rintro ac34 wd34 ⟨FF34, MM34⟩
    refine wp_seq (rg_seq FF34 MM34 [o_, o_, o_, l_ 1 (iN u), o_, o_, o_, o_, s_ 1 (oC #[sB (X.drop n), iN (u + n)] 81)] [5, 4, 0, 1] (fun Kt => g = g ∧ (#[sB (X.drop n), iN u] : Array Value)[1]? = some (iN u) ∧ u + n < 9223372036854775808 ∧ g = g ∧ 1 < (#[sB (X.drop n), iN u] : Array Value).size ∧ (((0, 0)).2 = 0 ∨ 1 < ((0, 0)).1) ∧ (#[sB (X.drop n), iN u] : Array Value).setIfInBounds 1 (iN (u + n)) = #[sB (X.drop n), iN (u + n)] ∧ Kt [(5, .slice (some ⟨bo, 0, none⟩) n n), (4, sB []), (0, pT g), (1, iN n)] ((bo, .cells (cn .u8 (takN n X)) 5) :: (g, oC #[sB (X.drop n), iN (u + n)] 81) :: ([] : Blks))) (by kernel_rfl) (fun _ => by kernel_rfl) (⟨rfl, rfl, (by have := hn; omega), rfl, (by simp), (.inl rfl), rfl, fun ac35 wd35 FF35 MM35 => then_n ?_⟩))
    refine wp_seq (rg_seq FF35 MM35 [o_, l_ 0 (sB (takN n X)), o_] [5, 4, 0, 1] (fun Kt => bo = bo ∧ StrAt (cn .u8 (takN n X)) 0 n (bs (takN n X)) ∧ Kt [(4, sB (takN n X)), (5, .slice (some ⟨bo, 0, none⟩) n n), (0, pT g), (1, iN n)] ((bo, .cells (cn .u8 (takN n X)) 5) :: (g, oC #[sB (X.drop n), iN (u + n)] 81) :: ([] : Blks))) (by kernel_rfl) (fun _ => by kernel_rfl) (⟨rfl, (str_all (takN_len _ _) (takN_lt hX n)), fun ac36 wd36 FF36 MM36 => then_n ?_⟩))
    refine wp_ret ?_
    repeat first | refine then_ret ?_ | refine inb_ret ?_
    exact (ret_fr FF36 0 Tryd.results77 rfl ⟨rfl, MM36.turn (O := []) (fun i x hx => by simp at hx) 1 rfl (fun x hx => (nomatch hx))⟩)
set_option maxRecDepth 100000 in
theorem tused_T (g : Nat) (X : List Nat) (u : Nat) (w0 : World) (hg : w0.heap[g]? = some (TB X u)) :
    Calls Tryd.prog 28 #[pT g] w0 fun e w' => e = .returned (iN u) ∧ Turn g (TB X u) w0 w' := by
  refine enter_fr Tryd.func28 rfl Tryd.ntmps28 (by simp) fun ac (FF : Fr 9 ac [(0, pT g)]) => ?_
  have MM : MemS (fun k => k < w0.heap.size ∧ ∀ x ∈ (g, oC #[sB X, iN u] 81) :: ([] : Blks), x.1 ≠ k) w0 w0 ((g, oC #[sB X, iN u] 81) :: ([] : Blks)) [] := MemS.startN (one_has hg) ⟨fun y hy => (nomatch hy), trivial⟩
  refine wp_seq (rg_seq FF MM [o_] [0, 2] (fun Kt => Kt [(2, iN 0), (0, pT g)] ((g, oC #[sB X, iN u] 81) :: ([] : Blks))) (by kernel_rfl) (fun _ => by kernel_rfl) (fun ac1 wd1 FF1 MM1 => then_n ?_))
  refine wp_seq ?_
  refine wp_seq (rg_seq FF1 MM1 [o_, f_ (.bool false)] [2, 0, 4] (fun Kt => RunV Tryd.prog [(3, pT g), (2, iN 0), (0, pT g)] ((g, oC #[sB X, iN u] 81) :: ([] : Blks)) (opAt Tryd.f28 1 1) (.bool false) ∧ Kt [(4, .bool false), (2, iN 0), (0, pT g)] ((g, oC #[sB X, iN u] 81) :: ([] : Blks))) (by kernel_rfl) (fun _ => by kernel_rfl) (⟨(ptrSome_ok (t := 48) (t' := 48) (x := (.tmp 3)) (y := (.const (.pointer none))) (by kernel_rfl) rfl rfl Tryd.underlying48), fun ac2 wd2 FF2 MM2 => then_n ?_⟩))
  refine wp_cond_false (FF2.ev 0 rfl) ?_
  refine wp_skip ?_
  refine then_n ?_
  refine wp_seq (rg_seq FF2 MM2 [o_, o_, o_, l_ 0 (iN u), o_] [2, 0] (fun Kt => g = g ∧ (#[sB X, iN u] : Array Value)[1]? = some (iN u) ∧ Kt [(2, iN u), (0, pT g)] ((g, oC #[sB X, iN u] 81) :: ([] : Blks))) (by kernel_rfl) (fun _ => by kernel_rfl) (⟨rfl, rfl, fun ac3 wd3 FF3 MM3 => then_n ?_⟩))
  refine wp_ret ?_
  repeat first | refine then_ret ?_ | refine inb_ret ?_
  exact (ret_fr FF3 0 Tryd.results28 rfl ⟨rfl, MM3.turn (O := []) (fun i x hx => by simp at hx) 0 rfl (fun x hx => (nomatch hx))⟩)
theorem turn_below {w w' : World} {g : Nat} {ob : Obj} (hg : w.heap[g]? = some ob) (t : Turn g ob w w') : Below w.heap.size w w' := ⟨t.os, t.tape, t.output, t.size, fun k hk => by
  by_cases e : k = g
  · subst e; exact t.now.trans hg.symm
  · exact t.block k hk e⟩
theorem tused_any (g : Nat) (X : List Nat) (u : Nat) (w : World) (hg : w.heap[g]? = some (TB X u)) : Calls Tryd.prog 28 #[pT g] w fun e w' => e = .returned (iN u) ∧ Below w.heap.size w w' := (tused_T g X u w hg).mono fun _ _ ⟨h1, h2⟩ => ⟨h1, turn_below hg h2⟩
end Go.Proofs.YtlljedijldkcbaaDoor
namespace Go.Proofs.YtlljedijldkcbaaDoor
open Go.RowKit
/-- A tape that was made. -/
def NewT (X : List Nat) (w w' : World) (v : Value) : Prop := ∃ g, v = pT g ∧ Below w.heap.size w w' ∧ w.heap.size ≤ g ∧ w'.heap[g]? = some (TB X 0)
set_option maxRecDepth 100000 in
theorem tnew_any (X : List Nat) (w0 : World) : Calls Tryd.prog 25 #[sB X] w0 fun e w' => ∃ v, e = .returned v ∧ NewT X w0 w' v := by
  refine enter_fr Tryd.func25 rfl Tryd.ntmps25 (by simp) fun ac (FF : Fr 6 ac [(0, sB X)]) => ?_
  have MM := MemS.start w0
  refine wp_seq (rg_seq FF MM [o_] [0, 2] (fun Kt => Kt [(2, .pointer none), (0, sB X)] []) (by kernel_rfl) (fun _ => by kernel_rfl) (fun ac1 wd1 FF1 MM1 => then_n ?_))
  refine wp_seq (rg_seq FF1 MM1 [o_, o_, o_, o_] [2] (fun Kt => ∀ bt, Kt [(2, pT bt)] [(bt, oC #[sB X, iN 0] 81)]) (by kernel_rfl) (fun _ => by kernel_rfl) (fun bt => fun ac2 wd2 FF2 MM2 => then_n ?_))
  refine wp_ret ?_
  repeat first | refine then_ret ?_ | refine inb_ret ?_
  exact (ret_fr FF2 0 Tryd.results25 rfl ⟨_, rfl, bt, rfl, MM2.below, MM2.fresh 0 rfl, MM2.get 0 rfl⟩)
set_option maxRecDepth 100000 in
theorem maybe_yes (k : Nat) (h1 : k ≥ 1) (hk : k ≤ 16) (w0 : World) :
    Calls Tryd.prog 61 #[iN k] w0 fun e w' => e = .returned (.bool true) ∧ Below w0.heap.size w0 w' := by
  refine enter_fr Tryd.func61 rfl Tryd.ntmps61 (by simp) fun ac (FF : Fr 9 ac [(0, iN k)]) => ?_
  have MM := MemS.start w0
  refine wp_seq (rg_seq FF MM [o_] [0, 2] (fun Kt => Kt [(2, .bool false), (0, iN k)] []) (by kernel_rfl) (fun _ => by kernel_rfl) (fun ac1 wd1 FF1 MM1 => then_n ?_))
  refine wp_seq (rg_seq FF1 MM1 [o_, w_ 2, o_, o_, w_ 2, o_, o_] [2] (fun Kt => k ≥ 1 ∧ k ≤ 16 ∧ Kt [(2, .bool true)] []) (by kernel_rfl) (fun _ => by kernel_rfl) (⟨h1, hk, fun ac2 wd2 FF2 MM2 => then_n ?_⟩))
  refine wp_ret ?_
  repeat first | refine then_ret ?_ | refine inb_ret ?_
  exact (ret_fr FF2 0 Tryd.results61 rfl ⟨rfl, MM2.below⟩)
set_option maxRecDepth 100000 in
theorem maybe_lo (z : Int) (hz : z < 1) (w0 : World) :
    Calls Tryd.prog 61 #[.int .i64 z] w0 fun e w' => e = .returned (.bool false) ∧ Below w0.heap.size w0 w' := by
  refine enter_fr Tryd.func61 rfl Tryd.ntmps61 (by simp) fun ac (FF : Fr 9 ac [(0, .int .i64 (z : Int))]) => ?_
  have MM := MemS.start w0
  refine wp_seq (rg_seq FF MM [o_] [0, 2] (fun Kt => Kt [(2, .bool false), (0, .int .i64 (z : Int))] []) (by kernel_rfl) (fun _ => by kernel_rfl) (fun ac1 wd1 FF1 MM1 => then_n ?_))
  refine wp_seq (rg_seq FF1 MM1 [o_, u_ 4 (.bool false), o_, o_, o_, o_, o_] [2] (fun Kt => Value.bool (decide (z ≥ ((1 : Nat) : Int))) = .bool false ∧ Kt [(2, .bool false)] []) (by kernel_rfl) (fun _ => by kernel_rfl) (⟨(dec_f (by omega)), fun ac2 wd2 FF2 MM2 => then_n ?_⟩))
  refine wp_ret ?_
  repeat first | refine then_ret ?_ | refine inb_ret ?_
  exact (ret_fr FF2 0 Tryd.results61 rfl ⟨rfl, MM2.below⟩)
set_option maxRecDepth 100000 in
theorem maybe_hi (z : Int) (hz : z > 16) (w0 : World) :
    Calls Tryd.prog 61 #[.int .i64 z] w0 fun e w' => e = .returned (.bool false) ∧ Below w0.heap.size w0 w' := by
  refine enter_fr Tryd.func61 rfl Tryd.ntmps61 (by simp) fun ac (FF : Fr 9 ac [(0, .int .i64 (z : Int))]) => ?_
  have MM := MemS.start w0
  refine wp_seq (rg_seq FF MM [o_] [0, 2] (fun Kt => Kt [(2, .bool false), (0, .int .i64 (z : Int))] []) (by kernel_rfl) (fun _ => by kernel_rfl) (fun ac1 wd1 FF1 MM1 => then_n ?_))
  refine wp_seq (rg_seq FF1 MM1 [o_, w_ 6, o_, o_, u_ 4 (.bool false), o_, o_] [2] (fun Kt => z ≥ ((1 : Nat) : Int) ∧ Value.bool (decide (z ≤ ((16 : Nat) : Int))) = .bool false ∧ Kt [(2, .bool false)] []) (by kernel_rfl) (fun _ => by kernel_rfl) (⟨(by omega), (dec_f (by omega)), fun ac2 wd2 FF2 MM2 => then_n ?_⟩))
  refine wp_ret ?_
  repeat first | refine then_ret ?_ | refine inb_ret ?_
  exact (ret_fr FF2 0 Tryd.results61 rfl ⟨rfl, MM2.below⟩)
theorem en_tries : Enters Tryd.prog 64 := fun args w => by simp [go_sem]
set_option maxRecDepth 100000 in
theorem tries_yes (k : Nat) (h1 : k ≥ 1) (hk : k ≤ 16) (w0 : World) :
    Calls Tryd.prog 64 #[iN k] w0 fun e w' => e = .returned (.bool true) ∧ Below w0.heap.size w0 w' := by
  refine enter_fr Tryd.func64 rfl Tryd.ntmps64 (by simp) fun ac (FF : Fr 9 ac [(0, iN k)]) => ?_
  have MM := MemS.start w0
  refine wp_seq (rg_seq FF MM [o_] [0, 2] (fun Kt => Kt [(2, .bool false), (0, iN k)] []) (by kernel_rfl) (fun _ => by kernel_rfl) (fun ac1 wd1 FF1 MM1 => then_n ?_))
  refine wp_seq (rg_seq FF1 MM1 [o_, w_ 2, o_, o_, w_ 2, o_, o_] [2] (fun Kt => k ≥ 1 ∧ k ≤ 16 ∧ Kt [(2, .bool true)] []) (by kernel_rfl) (fun _ => by kernel_rfl) (⟨h1, hk, fun ac2 wd2 FF2 MM2 => then_n ?_⟩))
  refine wp_ret ?_
  repeat first | refine then_ret ?_ | refine inb_ret ?_
  exact (ret_fr FF2 0 Tryd.results64 rfl ⟨rfl, MM2.below⟩)
set_option maxRecDepth 100000 in
theorem tries_lo (z : Int) (hz : z < 1) (w0 : World) :
    Calls Tryd.prog 64 #[.int .i64 z] w0 fun e w' => e = .returned (.bool false) ∧ Below w0.heap.size w0 w' := by
  refine enter_fr Tryd.func64 rfl Tryd.ntmps64 (by simp) fun ac (FF : Fr 9 ac [(0, .int .i64 (z : Int))]) => ?_
  have MM := MemS.start w0
  refine wp_seq (rg_seq FF MM [o_] [0, 2] (fun Kt => Kt [(2, .bool false), (0, .int .i64 (z : Int))] []) (by kernel_rfl) (fun _ => by kernel_rfl) (fun ac1 wd1 FF1 MM1 => then_n ?_))
  refine wp_seq (rg_seq FF1 MM1 [o_, u_ 4 (.bool false), o_, o_, o_, o_, o_] [2] (fun Kt => Value.bool (decide (z ≥ ((1 : Nat) : Int))) = .bool false ∧ Kt [(2, .bool false)] []) (by kernel_rfl) (fun _ => by kernel_rfl) (⟨(dec_f (by omega)), fun ac2 wd2 FF2 MM2 => then_n ?_⟩))
  refine wp_ret ?_
  repeat first | refine then_ret ?_ | refine inb_ret ?_
  exact (ret_fr FF2 0 Tryd.results64 rfl ⟨rfl, MM2.below⟩)
set_option maxRecDepth 100000 in
theorem tries_hi (z : Int) (hz : z > 16) (w0 : World) :
    Calls Tryd.prog 64 #[.int .i64 z] w0 fun e w' => e = .returned (.bool false) ∧ Below w0.heap.size w0 w' := by
  refine enter_fr Tryd.func64 rfl Tryd.ntmps64 (by simp) fun ac (FF : Fr 9 ac [(0, .int .i64 (z : Int))]) => ?_
  have MM := MemS.start w0
  refine wp_seq (rg_seq FF MM [o_] [0, 2] (fun Kt => Kt [(2, .bool false), (0, .int .i64 (z : Int))] []) (by kernel_rfl) (fun _ => by kernel_rfl) (fun ac1 wd1 FF1 MM1 => then_n ?_))
  refine wp_seq (rg_seq FF1 MM1 [o_, w_ 6, o_, o_, u_ 4 (.bool false), o_, o_] [2] (fun Kt => z ≥ ((1 : Nat) : Int) ∧ Value.bool (decide (z ≤ ((16 : Nat) : Int))) = .bool false ∧ Kt [(2, .bool false)] []) (by kernel_rfl) (fun _ => by kernel_rfl) (⟨(by omega), (dec_f (by omega)), fun ac2 wd2 FF2 MM2 => then_n ?_⟩))
  refine wp_ret ?_
  repeat first | refine then_ret ?_ | refine inb_ret ?_
  exact (ret_fr FF2 0 Tryd.results64 rfl ⟨rfl, MM2.below⟩)
end Go.Proofs.YtlljedijldkcbaaDoor
namespace Go.Proofs.YtlljedijldkcbaaDoor
open Go.RowKit
theorem strY_rep {Y : List Nat} {c n : Nat} (hl : Y.length = n) (hY : ∀ i, Y.getD i 0 < 256) : StrAt (cn .u8 (Y ++ List.replicate c 0)) 0 n (bs Y) := by
  have h5 := str_part (X := Y ++ List.replicate c 0) (n := Y.length + c) (off := 0) (len := n) (by simp) (rep_lt hY c) (by omega)
  rw [List.drop_zero, ← hl, List.take_left] at h5
  rw [hl] at h5
  exact h5
theorem setY_rep {Y : List Nat} {c i x : Nat} (h : i < Y.length) : (Y ++ List.replicate c 0).set i x = Y.set i x ++ List.replicate c 0 := List.set_append_left _ _ h
theorem setY_lt {Y : List Nat} {i x : Nat} (hY : ∀ i, Y.getD i 0 < 256) (hx : x < 256) : ∀ j, (Y.set i x).getD j 0 < 256 := fun j => by
  rw [getD_set]; split
  · exact hx
  · exact hY j
set_option maxRecDepth 100000 in
theorem tbits_any (g : Nat) (X : List Nat) (u : Nat) (hX : ∀ i, X.getD i 0 < 256) (hu : u < 4611686018427387904) (b : Nat) (hb1 : 1 ≤ b) (hb : b ≤ 1024) (w0 : World) (hg : w0.heap[g]? = some (TB X u)) :
    Calls Tryd.prog 62 #[pT g, iN b] w0 fun e w' => ∃ v, e = .returned (.agg #[nv (bitN b X) v]) ∧ Turn g (TB (X.drop ((b + 7) / 8)) (u + (b + 7) / 8)) w0 w' ∧ NatNew w0.heap.size w' (nv (bitN b X) v) (bitN b X) := by
  refine enter_fr Tryd.func62 rfl Tryd.ntmps62 (by simp) fun ac (FF : Fr 29 ac [(0, pT g), (1, iN b)]) => ?_
  have MM : MemS (fun k => k < w0.heap.size ∧ ∀ x ∈ (g, oC #[sB X, iN u] 81) :: ([] : Blks), x.1 ≠ k) w0 w0 ((g, oC #[sB X, iN u] 81) :: ([] : Blks)) [] := MemS.startN (one_has hg) ⟨fun y hy => (nomatch hy), trivial⟩
  have hmk : (takN ((b + 7) / 8) X).getD ((b + 7) / 8 - 1) 0 &&& 255 / 2 ^ (8 * ((b + 7) / 8) - b) < 256 := Nat.lt_of_le_of_lt Nat.and_le_left (takN_lt hX _ _)
  have hY2 := setY_lt (i := (b + 7) / 8 - 1) (takN_lt hX ((b + 7) / 8)) hmk
  refine wp_seq (rg_seq FF MM [o_] [0, 1, 4] (fun Kt => ∀ br, Kt [(4, pT br), (0, pT g), (1, iN b)] ((br, oC #[.slice none 0 0] 37) :: (g, oC #[sB X, iN u] 81) :: ([] : Blks))) (by kernel_rfl) (fun _ => by kernel_rfl) (fun br => fun ac1 wd1 FF1 MM1 => then_n ?_))
  refine wp_seq (wp_region_list ?_)
  refine rg_part 5 FF1 MM1 [o_, o_, o_, o_, c_ (sB (takN ((b + 7) / 8) X)) [(1, oC #[sB (X.drop ((b + 7) / 8)), iN (u + ((b + 7) / 8))] 81)]] [4, 1, 10] (fun Kt => b + 7 < 9223372036854775808 ∧ 8 ≠ 0 ∧ (b + 7) / 8 < 9223372036854775808 ∧ CallU Tryd.prog 77 [pT g, iN ((b + 7) / 8)] ((br, oC #[.slice none 0 0] 37) :: (g, oC #[sB X, iN u] 81) :: ([] : Blks)) (sB (takN ((b + 7) / 8) X)) [(1, oC #[sB (X.drop ((b + 7) / 8)), iN (u + ((b + 7) / 8))] 81)] ∧ Kt [(10, sB (takN ((b + 7) / 8) X)), (4, pT br), (1, iN b)] ((br, oC #[.slice none 0 0] 37) :: (g, oC #[sB (X.drop ((b + 7) / 8)), iN (u + ((b + 7) / 8))] 81) :: ([] : Blks))) (by kernel_rfl) (fun _ => by kernel_rfl) (⟨(by have := hb; omega), (by decide), (by have := hb; omega), (callU_turn en_take (g := g) (ob := TB X u) rfl fun w hg => by have h0 := take_any g ((b + 7) / 8) X u hX (by omega) (by omega) w hg; exact h0), fun ac2 wd2 FF2 MM2 => ?_⟩)
  refine st_new [4, 1, 11] FF2 MM2 (d := 11) (bytes_ok (e := 5) (x := (.tmp 10)) (by kernel_rfl) rfl (takN_lt hX ((b + 7) / 8)) Tryd.underlying9 Tryd.underlying67 Tryd.underlying5) rfl rfl (by decide) fun ac3 wd3 bs_ cz (FF3 : Fr 29 ac3 [(11, .slice (some ⟨bs_, 0, none⟩) ((takN ((b + 7) / 8) X).length) ((takN ((b + 7) / 8) X).length + cz)), (4, pT br), (1, iN b)]) (MM3 : MemS (fun k => k < w0.heap.size ∧ ∀ x ∈ (g, oC #[sB X, iN u] 81) :: ([] : Blks), x.1 ≠ k) w0 wd3 ((bs_, .cells (cn .u8 ((takN ((b + 7) / 8) X) ++ List.replicate cz 0)) 5 ((takN ((b + 7) / 8) X).length + cz, (takN ((b + 7) / 8) X).length + cz + 1)) :: (br, oC #[.slice none 0 0] 37) :: (g, oC #[sB (X.drop ((b + 7) / 8)), iN (u + ((b + 7) / 8))] 81) :: ([] : Blks)) []) => ?_
  refine rg_part 1 FF3 MM3 [o_] [4, 1, 5] (fun Kt => Kt [(5, .slice (some ⟨bs_, 0, none⟩) ((takN ((b + 7) / 8) X).length) ((takN ((b + 7) / 8) X).length + cz)), (4, pT br), (1, iN b)] ((bs_, .cells (cn .u8 ((takN ((b + 7) / 8) X) ++ List.replicate cz 0)) 5 ((takN ((b + 7) / 8) X).length + cz, (takN ((b + 7) / 8) X).length + cz + 1)) :: (br, oC #[.slice none 0 0] 37) :: (g, oC #[sB (X.drop ((b + 7) / 8)), iN (u + ((b + 7) / 8))] 81) :: ([] : Blks))) (by kernel_rfl) (fun _ => by kernel_rfl) (fun ac4 wd4 FF4 MM4 => ?_)
  refine wpl_nil (then_n ?_)
  refine wp_seq (rg_draw FF4 MM4 [.inl (.slice (some ⟨bs_, 0, none⟩) ((takN ((b + 7) / 8) X).length) ((takN ((b + 7) / 8) X).length + cz)), .inl (.slice (some ⟨bs_, 0, none⟩) ((takN ((b + 7) / 8) X).length) ((takN ((b + 7) / 8) X).length + cz)), .inl (iN ((b + 7) / 8)), .inl (iN (((b + 7) / 8) - 1)), .inl (.pointer (some ⟨bs_, ((b + 7) / 8) - 1, none⟩)), .inl (iB ((takN ((b + 7) / 8) X).getD ((b + 7) / 8 - 1) 0)), .inl (.slice (some ⟨bs_, 0, none⟩) ((takN ((b + 7) / 8) X).length) ((takN ((b + 7) / 8) X).length + cz)), .inl (iN ((b + 7) / 8)), .inl (iN (8 * ((b + 7) / 8))), .inl (iN b), .inl (iN ((8 * ((b + 7) / 8)) - b)), .inl (iB (255 / (2 ^ ((8 * ((b + 7) / 8)) - b)))), .inl (iB (((takN ((b + 7) / 8) X).getD ((b + 7) / 8 - 1) 0) &&& (255 / (2 ^ ((8 * ((b + 7) / 8)) - b))))), .inl (.pointer (some ⟨bs_, ((b + 7) / 8) - 1, none⟩))] [] [o_, o_, t_ (iN ((b + 7) / 8)), o_, w_ 1, l_ 0 (iB ((takN ((b + 7) / 8) X).getD ((b + 7) / 8 - 1) 0)), o_, t_ (iN ((b + 7) / 8)), o_, o_, o_, o_, o_, w_ 1] [s_ 0 (.cells (cn .u8 ((takN ((b + 7) / 8) X).set ((b + 7) / 8 - 1) ((takN ((b + 7) / 8) X).getD ((b + 7) / 8 - 1) 0 &&& 255 / 2 ^ (8 * ((b + 7) / 8) - b)) ++ List.replicate cz 0)) 5)] [5, 4, 1] (fun nb => [iN ((takN ((b + 7) / 8) X).length) = iN ((b + 7) / 8), 1 ≤ ((b + 7) / 8), ((b + 7) / 8) - 1 < 9223372036854775808, (((b + 7) / 8) - 1) < ((takN ((b + 7) / 8) X).length), bs_ = bs_, (cn .u8 ((takN ((b + 7) / 8) X) ++ List.replicate cz 0))[((b + 7) / 8) - 1]? = some (iB ((takN ((b + 7) / 8) X).getD ((b + 7) / 8 - 1) 0)), iN ((takN ((b + 7) / 8) X).length) = iN ((b + 7) / 8), 8 * ((b + 7) / 8) < 9223372036854775808, b ≤ (8 * ((b + 7) / 8)), (8 * ((b + 7) / 8)) - b < 9223372036854775808, (8 * ((b + 7) / 8)) - b ≤ 8, ((takN ((b + 7) / 8) X).getD ((b + 7) / 8 - 1) 0) < 256, (255 / (2 ^ ((8 * ((b + 7) / 8)) - b))) < 256, (((b + 7) / 8) - 1) < ((takN ((b + 7) / 8) X).length)]) (fun nb Kt => bs_ = bs_ ∧ ((b + 7) / 8) - 1 < (cn .u8 ((takN ((b + 7) / 8) X) ++ List.replicate cz 0)).size ∧ ((((takN ((b + 7) / 8) X).length + cz, (takN ((b + 7) / 8) X).length + cz + 1)).2 = 0 ∨ ((b + 7) / 8) - 1 < (((takN ((b + 7) / 8) X).length + cz, (takN ((b + 7) / 8) X).length + cz + 1)).1) ∧ (cn .u8 ((takN ((b + 7) / 8) X) ++ List.replicate cz 0)).setIfInBounds (((b + 7) / 8) - 1) (iB (((takN ((b + 7) / 8) X).getD ((b + 7) / 8 - 1) 0) &&& (255 / (2 ^ ((8 * ((b + 7) / 8)) - b))))) = cn .u8 ((takN ((b + 7) / 8) X).set ((b + 7) / 8 - 1) ((takN ((b + 7) / 8) X).getD ((b + 7) / 8 - 1) 0 &&& 255 / 2 ^ (8 * ((b + 7) / 8) - b)) ++ List.replicate cz 0) ∧ Kt [(5, .slice (some ⟨bs_, 0, none⟩) ((takN ((b + 7) / 8) X).length) ((takN ((b + 7) / 8) X).length + cz)), (4, pT br), (1, iN b)] ((bs_, .cells (cn .u8 ((takN ((b + 7) / 8) X).set ((b + 7) / 8 - 1) ((takN ((b + 7) / 8) X).getD ((b + 7) / 8 - 1) 0 &&& 255 / 2 ^ (8 * ((b + 7) / 8) - b)) ++ List.replicate cz 0)) 5 ((takN ((b + 7) / 8) X).length + cz, (takN ((b + 7) / 8) X).length + cz + 1)) :: (br, oC #[.slice none 0 0] 37) :: (g, oC #[sB (X.drop ((b + 7) / 8)), iN (u + ((b + 7) / 8))] 81) :: ([] : Blks))) (by kernel_rfl) (by kernel_rfl) (by kernel_rfl) (fun _ => by kernel_rfl) (fun _ _ => by kernel_rfl) trivial (fun nb => ⟨(vI (takN_len _ _)), (by omega), (by omega), (by rw [takN_len]; omega), rfl, ((cn_get _ _ _ (by rw [List.length_append, takN_len]; omega)).trans (congrArg some (vI (getD_app_l _ _ _ (by rw [takN_len]; omega))))), (vI (takN_len _ _)), (by omega), (by have := hb; omega), (by have := hb; omega), (by have := hb; omega), (takN_lt hX _ _), (Nat.lt_of_le_of_lt (Nat.div_le_self _ _) (by decide)), (by rw [takN_len]; omega), trivial⟩) (fun nb => ⟨rfl, (by rw [cn_size, List.length_append, takN_len]; omega), (.inr (by rw [takN_len]; show _ < _; omega)), ((cn_set _ _ _ _).trans (congrArg _ (setY_rep (by rw [takN_len]; omega)))), fun ac5 wd5 FF5 MM5 => then_n ?_⟩))
  refine wp_seq (wp_region_list ?_)
  refine rg_part 2 FF5 MM5 [o_, l_ 0 (sB ((takN ((b + 7) / 8) X).set ((b + 7) / 8 - 1) ((takN ((b + 7) / 8) X).getD ((b + 7) / 8 - 1) 0 &&& 255 / 2 ^ (8 * ((b + 7) / 8) - b))))] [5, 4, 1, 27] (fun Kt => bs_ = bs_ ∧ StrAt (cn .u8 ((takN ((b + 7) / 8) X).set ((b + 7) / 8 - 1) ((takN ((b + 7) / 8) X).getD ((b + 7) / 8 - 1) 0 &&& 255 / 2 ^ (8 * ((b + 7) / 8) - b)) ++ List.replicate cz 0)) 0 ((takN ((b + 7) / 8) X).length) (bs ((takN ((b + 7) / 8) X).set ((b + 7) / 8 - 1) ((takN ((b + 7) / 8) X).getD ((b + 7) / 8 - 1) 0 &&& 255 / 2 ^ (8 * ((b + 7) / 8) - b)))) ∧ Kt [(27, sB ((takN ((b + 7) / 8) X).set ((b + 7) / 8 - 1) ((takN ((b + 7) / 8) X).getD ((b + 7) / 8 - 1) 0 &&& 255 / 2 ^ (8 * ((b + 7) / 8) - b)))), (5, .slice (some ⟨bs_, 0, none⟩) ((takN ((b + 7) / 8) X).length) ((takN ((b + 7) / 8) X).length + cz)), (4, pT br), (1, iN b)] ((bs_, .cells (cn .u8 ((takN ((b + 7) / 8) X).set ((b + 7) / 8 - 1) ((takN ((b + 7) / 8) X).getD ((b + 7) / 8 - 1) 0 &&& 255 / 2 ^ (8 * ((b + 7) / 8) - b)) ++ List.replicate cz 0)) 5 ((takN ((b + 7) / 8) X).length + cz, (takN ((b + 7) / 8) X).length + cz + 1)) :: (br, oC #[.slice none 0 0] 37) :: (g, oC #[sB (X.drop ((b + 7) / 8)), iN (u + ((b + 7) / 8))] 81) :: ([] : Blks))) (by kernel_rfl) (fun _ => by kernel_rfl) (⟨rfl, (strY_rep (by rw [List.length_set]) hY2), fun ac6 wd6 FF6 MM6 => ?_⟩)
  refine st_callE [5, 4, 1, 28] FF6 (d := 28) (mk := fun v => .agg #[nv (bitN b X) v]) en_nbytes rfl rfl (by have h0 := nbytes_any ((takN ((b + 7) / 8) X).set ((b + 7) / 8 - 1) ((takN ((b + 7) / 8) X).getD ((b + 7) / 8 - 1) 0 &&& 255 / 2 ^ (8 * ((b + 7) / 8) - b))) hY2 (by rw [List.length_set, takN_len]; omega) wd6; rw [bit_tape hX hb1] at h0; exact h0) rfl (by kernel_rfl) (by decide) fun ac8 wd8 lv7 (FF8 : Fr 29 ac8 [(28, aG #[nv (bitN b X) lv7]), (5, .slice (some ⟨bs_, 0, none⟩) ((takN ((b + 7) / 8) X).length) ((takN ((b + 7) / 8) X).length + cz)), (4, pT br), (1, iN b)]) hr9 => ?_
  have hfr := hr9.2.2
  have hsz := MM6.size
  obtain ⟨O10, MM110, hN12, hs13⟩ := MemS.addNats (K := [(bs_, .cells (cn .u8 ((takN ((b + 7) / 8) X).set ((b + 7) / 8 - 1) ((takN ((b + 7) / 8) X).getD ((b + 7) / 8 - 1) 0 &&& 255 / 2 ^ (8 * ((b + 7) / 8) - b)) ++ List.replicate cz 0)) 5 ((takN ((b + 7) / 8) X).length + cz, (takN ((b + 7) / 8) X).length + cz + 1)), (br, oC #[.slice none 0 0] 37), (g, oC #[sB (X.drop ((b + 7) / 8)), iN (u + ((b + 7) / 8))] 81)]) (O := ([] : Blks)) MM6 hr9.1 hr9.2 (Nats.nil ([] : Blks))
  have MM11 : MemS (fun k => k < w0.heap.size ∧ ∀ x ∈ (g, oC #[sB X, iN u] 81) :: ([] : Blks), x.1 ≠ k) w0 wd8 ((bs_, .cells (cn .u8 ((takN ((b + 7) / 8) X).set ((b + 7) / 8 - 1) ((takN ((b + 7) / 8) X).getD ((b + 7) / 8 - 1) 0 &&& 255 / 2 ^ (8 * ((b + 7) / 8) - b)) ++ List.replicate cz 0)) 5 ((takN ((b + 7) / 8) X).length + cz, (takN ((b + 7) / 8) X).length + cz + 1)) :: (br, oC #[.slice none 0 0] 37) :: (g, oC #[sB (X.drop ((b + 7) / 8)), iN (u + ((b + 7) / 8))] 81) :: O10) [] := MM110
  refine rg_part 1 FF8 MM11 [b_ 1] [5, 4, 1] (fun Kt => br = br ∧ (#[.slice none 0 0] : Array Value).size = 1 ∧ (#[nv (bitN b X) lv7] : Array Value).size = 1 ∧ (#[nv (bitN b X) lv7] : Array Value).all (·.oneCell') = true ∧ (0, 0).2 = 0 ∧ Kt [(5, .slice (some ⟨bs_, 0, none⟩) ((takN ((b + 7) / 8) X).length) ((takN ((b + 7) / 8) X).length + cz)), (4, pT br), (1, iN b)] ((bs_, .cells (cn .u8 ((takN ((b + 7) / 8) X).set ((b + 7) / 8 - 1) ((takN ((b + 7) / 8) X).getD ((b + 7) / 8 - 1) 0 &&& 255 / 2 ^ (8 * ((b + 7) / 8) - b)) ++ List.replicate cz 0)) 5 ((takN ((b + 7) / 8) X).length + cz, (takN ((b + 7) / 8) X).length + cz + 1)) :: (br, oC #[nv (bitN b X) lv7] 37) :: (g, oC #[sB (X.drop ((b + 7) / 8)), iN (u + ((b + 7) / 8))] 81) :: O10)) (by kernel_rfl) (fun _ => by kernel_rfl) (⟨rfl, rfl, rfl, (by kernel_rfl), rfl, fun ac14 wd14 FF14 MM14 => ?_⟩)
  refine wpl_nil (then_n ?_)
  refine wp_ret ?_
  repeat first | refine then_ret ?_ | refine inb_ret ?_
  exact (retc FF14 MM14 (k := 1) (i := 1) (j := 1) Tryd.results62 rfl rfl Tryd.underlying37 rfl (by kernel_rfl) rfl ⟨lv7, rfl, MM14.turn (O := []) (fun i x hx => by simp at hx) 2 rfl (fun x hx => (nomatch hx)), (hN12.get 0 rfl).at (Has.tl (Has.tl (Has.tl MM14.hasL))), fun q hq => Nat.le_trans hsz (hfr q hq)⟩)
set_option maxRecDepth 100000 in
theorem tunder_O (g : Nat) (X : List Nat) (u : Nat) (hX : ∀ i, X.getD i 0 < 256) (hu : u < 4611686018427000000) (N : Nat) (y : Value) (k : Nat) (O : Blks) (hN : NatO O (nv N y) N) (h1 : 1 ≤ bsz N) (hb : bsz N ≤ 1024) (hk1 : 1 ≤ k) (hk : k ≤ 16) (w0 : World) (H : Has w0 ((g, TB X u) :: O)) (hD : Distinct ((g, TB X u) :: O)) :
    Calls Tryd.prog 47 #[pT g, .agg #[nv N y], iN k] w0 fun e w' => ∃ v, e = .returned (.tuple #[.agg #[nv (undN N (bsz N) k X).1 v], iN ((undN N (bsz N) k X).2.1)]) ∧ Turn g (TB (X.drop (undN N (bsz N) k X).2.2) (u + (undN N (bsz N) k X).2.2)) w0 w' ∧ NatNew w0.heap.size w' (nv (undN N (bsz N) k X).1 v) (undN N (bsz N) k X).1 := by
  refine enter_fr Tryd.func47 rfl Tryd.ntmps47 (by simp) fun ac (FF : Fr 41 ac [(0, pT g), (1, aG #[nv N y]), (2, iN k)]) => ?_
  have MM : MemS (fun k => k < w0.heap.size ∧ ∀ x ∈ (g, oC #[sB X, iN u] 81) :: O, x.1 ≠ k) w0 w0 ((g, oC #[sB X, iN u] 81) :: O) [] := MemS.startN H hD
  have hs : qsz N < 1000000 := Nat.lt_of_le_of_lt (qsz_le (n := 16) (Nat.lt_of_lt_of_le (bsz_ok N).1 (Nat.le_trans (Nat.pow_le_pow_right (by decide) hb) (by decide +kernel)))) (by decide)
  refine wp_seq (rg_seq FF MM [o_, o_, o_] [0, 2, 4, 6, 7] (fun Kt => ∀ bw, ∀ br, Kt [(7, iN 0), (6, pT br), (4, pT bw), (0, pT g), (2, iN k)] ((br, oC #[.slice none 0 0] 37) :: (bw, oC #[nv N y] 37) :: (g, oC #[sB X, iN u] 81) :: O)) (by kernel_rfl) (fun _ => by kernel_rfl) (fun bw => fun br => fun ac1 wd1 FF1 MM1 => then_n ?_))
  refine wp_seq (rg_seq FF1 MM1 [b_ 1, u_ 1 (iN (bsz N)), o_] [7, 6, 4, 0, 2, 8] (fun Kt => bw = bw ∧ (#[nv N y] : Array Value).size = 1 ∧ CallP Tryd.prog 35 [aG #[nv N y]] ((br, oC #[.slice none 0 0] 37) :: (bw, oC #[nv N y] 37) :: (g, oC #[sB X, iN u] 81) :: O) (iN (bsz N)) ∧ Kt [(8, iN (bsz N)), (7, iN 0), (6, pT br), (4, pT bw), (0, pT g), (2, iN k)] ((br, oC #[.slice none 0 0] 37) :: (bw, oC #[nv N y] 37) :: (g, oC #[sB X, iN u] 81) :: O)) (by kernel_rfl) (fun _ => by kernel_rfl) (⟨rfl, rfl, ⟨en_nbits, fun w Hw => nbits_any N y hs w (hN.at (Has.tl (Has.tl (Has.tl Hw))))⟩, fun ac2 wd2 FF2 MM2 => then_n ?_⟩))
  refine wp_seq ?_
  refine wp_seq (rg_seq FF2 MM2 [o_, f_ (.bool false), o_, o_, w_ 3, o_, o_, o_, w_ 3, o_, o_, o_, t_ (.bool true), o_, o_] [8, 7, 6, 4, 0, 2, 26] (fun Kt => RunV Tryd.prog [(12, pT g), (8, iN (bsz N)), (7, iN 0), (6, pT br), (4, pT bw), (0, pT g), (2, iN k)] ((br, oC #[.slice none 0 0] 37) :: (bw, oC #[nv N y] 37) :: (g, oC #[sB X, iN u] 81) :: O) (opAt Tryd.f47 2 1) (.bool false) ∧ ¬ ((bsz N) < 1) ∧ ¬ ((bsz N) > 1024) ∧ CallP Tryd.prog 61 [iN k] [] (.bool true) ∧ Kt [(26, .bool false), (8, iN (bsz N)), (7, iN 0), (6, pT br), (4, pT bw), (0, pT g), (2, iN k)] ((br, oC #[.slice none 0 0] 37) :: (bw, oC #[nv N y] 37) :: (g, oC #[sB X, iN u] 81) :: O)) (by kernel_rfl) (fun _ => by kernel_rfl) (⟨(ptrSome_ok (t := 48) (t' := 48) (x := (.tmp 12)) (y := (.const (.pointer none))) (by kernel_rfl) rfl rfl Tryd.underlying48), (by omega), (by omega), (callP_of en_maybe (maybe_yes k (by omega) (by omega)) _), fun ac3 wd3 FF3 MM3 => then_n ?_⟩))
  refine wp_cond_false (FF3.ev 0 rfl) ?_
  refine wp_skip ?_
  refine then_n ?_
  refine wp_seq ?_
  refine wp_seq (rg_seq FF3 MM3 [o_, o_] [8, 7, 6, 4, 0, 2, 28, 29] (fun Kt => Kt [(29, iN 0), (28, iN k), (8, iN (bsz N)), (7, iN 0), (6, pT br), (4, pT bw), (0, pT g), (2, iN k)] ((br, oC #[.slice none 0 0] 37) :: (bw, oC #[nv N y] 37) :: (g, oC #[sB X, iN u] 81) :: O)) (by kernel_rfl) (fun _ => by kernel_rfl) (fun ac4 wd4 FF4 MM4 => then_n ?_))
  refine wp_for (fun a' w' => ∃ O1 : Blks, ∃ i : Nat, i ≤ k ∧ (∀ x ∈ O, x ∈ O1) ∧ UndI N (bsz N) k X i ∧ Fr 41 a' [(29, iN i), (28, iN k), (8, iN (bsz N)), (6, pT br), (4, pT bw), (0, pT g), (2, iN k)] ∧ MemS (fun k => k < w0.heap.size ∧ ∀ x ∈ (g, oC #[sB X, iN u] 81) :: O, x.1 ≠ k) w0 w' ((br, oC #[.slice none 0 0] 37) :: (bw, oC #[nv N y] 37) :: (g, oC #[sB (X.drop ((bsz N + 7) / 8 * i)), iN (u + (bsz N + 7) / 8 * i)] 81) :: O1) []) (fun a' _ => (k - cnt 29 a').toNat) ⟨O, 0, Nat.zero_le _, (fun _ h => h), und_start _ _ _ _, FF4.pick [0, 1, 2, 4, 5, 6, 7], MM4⟩ ?_
  rintro ac5 wd5 ⟨O1, i, hi, hsb, hI, FF5, MM5⟩
  have hN1 := hN.mono hsb
  have hc := cnt_of (FF5.get 0 rfl)
  refine rg_seq FF5 MM5 [o_] [29, 28, 8, 6, 4, 0, 2, 30] (fun Kt => Kt [(30, .bool (decide (i < k))), (29, iN i), (28, iN k), (8, iN (bsz N)), (6, pT br), (4, pT bw), (0, pT g), (2, iN k)] ((br, oC #[.slice none 0 0] 37) :: (bw, oC #[nv N y] 37) :: (g, oC #[sB (X.drop ((bsz N + 7) / 8 * i)), iN (u + (bsz N + 7) / 8 * i)] 81) :: O1)) (by kernel_rfl) (fun _ => by kernel_rfl) (fun ac6 wd6 FF6 MM6 => ?_)
  by_cases hlt : i < k
  · skip
    refine then_n (.inl ⟨(FF6.ev 0 rfl).trans (dec_t hlt), ?_⟩)
    have hmi : (bsz N + 7) / 8 * i ≤ 129 * 16 := Nat.mul_le_mul (by omega) (by omega)
    have hui : u + (bsz N + 7) / 8 * i < 4611686018427387904 := by omega
    refine wp_seq (wp_region_list ?_)
    refine rg_part 2 FF6 MM6 [o_, o_] [29, 28, 8, 6, 4, 0, 2, 31, 32] (fun Kt => Kt [(32, iN (bsz N)), (31, pT g), (29, iN i), (28, iN k), (8, iN (bsz N)), (6, pT br), (4, pT bw), (0, pT g), (2, iN k)] ((br, oC #[.slice none 0 0] 37) :: (bw, oC #[nv N y] 37) :: (g, oC #[sB (X.drop ((bsz N + 7) / 8 * i)), iN (u + (bsz N + 7) / 8 * i)] 81) :: O1)) (by kernel_rfl) (fun _ => by kernel_rfl) (fun ac7 wd7 FF7 MM7 => ?_)
    refine st_callE [29, 28, 8, 6, 4, 0, 2, 33] FF7 (d := 33) (mk := fun v => .agg #[nv (bitN (bsz N) (X.drop ((bsz N + 7) / 8 * i))) v]) en_tbits rfl rfl (tbits_any g (X.drop ((bsz N + 7) / 8 * i)) (u + (bsz N + 7) / 8 * i) (dropX_lt hX _) hui (bsz N) h1 hb _ (MM7.get 2 rfl)) rfl (by kernel_rfl) (by decide) fun ac9 wd9 lv8 (FF9 : Fr 41 ac9 [(33, aG #[nv (bitN (bsz N) (X.drop ((bsz N + 7) / 8 * i))) lv8]), (29, iN i), (28, iN k), (8, iN (bsz N)), (6, pT br), (4, pT bw), (0, pT g), (2, iN k)]) hr10 => ?_
    obtain ⟨ht9, hn9⟩ := hr10
    rw [List.drop_drop] at ht9
    have ht9 : Turn g (TB (X.drop ((bsz N + 7) / 8 * (i + 1))) (u + (bsz N + 7) / 8 * (i + 1))) wd7 wd9 := by rw [Nat.mul_succ, ← Nat.add_assoc]; exact ht9
    have MM11 : MemS (fun k => k < w0.heap.size ∧ ∀ x ∈ (g, oC #[sB X, iN u] 81) :: O, x.1 ≠ k) w0 wd9 ((br, oC #[.slice none 0 0] 37) :: (bw, oC #[nv N y] 37) :: (g, oC #[sB (X.drop ((bsz N + 7) / 8 * (i + 1))), iN (u + (bsz N + 7) / 8 * (i + 1))] 81) :: O1) [] := MM7.turnAt ht9 2 rfl
    have hfr := hn9.2
    have hsz := MM7.size
    obtain ⟨O12, MM130, hN14, hs15⟩ := MemS.addNatsT (K := [(br, oC #[.slice none 0 0] 37), (bw, oC #[nv N y] 37), (g, oC #[sB (X.drop ((bsz N + 7) / 8 * (i + 1))), iN (u + (bsz N + 7) / 8 * (i + 1))] 81)]) (O := O1) MM7 MM11 rfl hn9 (Nats.nil O1)
    have MM13 : MemS (fun k => k < w0.heap.size ∧ ∀ x ∈ (g, oC #[sB X, iN u] 81) :: O, x.1 ≠ k) w0 wd9 ((br, oC #[.slice none 0 0] 37) :: (bw, oC #[nv N y] 37) :: (g, oC #[sB (X.drop ((bsz N + 7) / 8 * (i + 1))), iN (u + (bsz N + 7) / 8 * (i + 1))] 81) :: O12) [] := MM130
    have hN0_16 := hN1.mono hs15
    have hz17 : ∀ x ∈ O, x ∈ O12 := fun x hx => hs15 x (hsb x hx)
    refine rg_part 2 FF9 MM13 [o_, b_ 0] [29, 28, 8, 6, 4, 0, 2, 9] (fun Kt => ∀ bv, bv = bv ∧ (#[.slice none 0 0] : Array Value).size = 1 ∧ (#[nv (bitN (bsz N) (X.drop ((bsz N + 7) / 8 * i))) lv8] : Array Value).size = 1 ∧ (#[nv (bitN (bsz N) (X.drop ((bsz N + 7) / 8 * i))) lv8] : Array Value).all (·.oneCell') = true ∧ (0, 0).2 = 0 ∧ Kt [(9, pT bv), (29, iN i), (28, iN k), (8, iN (bsz N)), (6, pT br), (4, pT bw), (0, pT g), (2, iN k)] ((bv, oC #[nv (bitN (bsz N) (X.drop ((bsz N + 7) / 8 * i))) lv8] 37) :: (br, oC #[.slice none 0 0] 37) :: (bw, oC #[nv N y] 37) :: (g, oC #[sB (X.drop ((bsz N + 7) / 8 * (i + 1))), iN (u + (bsz N + 7) / 8 * (i + 1))] 81) :: O12)) (by kernel_rfl) (fun _ => by kernel_rfl) (fun bv => ⟨rfl, rfl, rfl, (by kernel_rfl), rfl, fun ac18 wd18 FF18 MM18 => ?_⟩)
    refine wpl_nil (then_n ?_)
    have hsv : qsz (bitN (bsz N) (X.drop ((bsz N + 7) / 8 * i))) < 1000000 := Nat.lt_of_le_of_lt (qsz_le (n := 16) (Nat.lt_of_lt_of_le (bitN_lt _ _) (Nat.le_trans (Nat.pow_le_pow_right (by decide) hb) (by decide +kernel)))) (by decide)
    refine wp_seq (rg_seq FF18 MM18 [b_ 0, b_ 2, u_ 1 (.int .i64 (cmpN (bitN (bsz N) (X.drop ((bsz N + 7) / 8 * i))) N : Int)), w_ 4] [9, 29, 28, 8, 6, 4, 0, 2, 37] (fun Kt => bv = bv ∧ (#[nv (bitN (bsz N) (X.drop ((bsz N + 7) / 8 * i))) lv8] : Array Value).size = 1 ∧ bw = bw ∧ (#[nv N y] : Array Value).size = 1 ∧ CallP Tryd.prog 33 [aG #[nv (bitN (bsz N) (X.drop ((bsz N + 7) / 8 * i))) lv8], aG #[nv N y]] ((bv, oC #[nv (bitN (bsz N) (X.drop ((bsz N + 7) / 8 * i))) lv8] 37) :: (br, oC #[.slice none 0 0] 37) :: (bw, oC #[nv N y] 37) :: (g, oC #[sB (X.drop ((bsz N + 7) / 8 * (i + 1))), iN (u + (bsz N + 7) / 8 * (i + 1))] 81) :: O12) (.int .i64 (cmpN (bitN (bsz N) (X.drop ((bsz N + 7) / 8 * i))) N : Int)) ∧ Kt [(37, .bool (decide ((cmpN (bitN (bsz N) (X.drop ((bsz N + 7) / 8 * i))) N) < ((0 : Nat) : Int)))), (9, pT bv), (29, iN i), (28, iN k), (8, iN (bsz N)), (6, pT br), (4, pT bw), (0, pT g), (2, iN k)] ((bv, oC #[nv (bitN (bsz N) (X.drop ((bsz N + 7) / 8 * i))) lv8] 37) :: (br, oC #[.slice none 0 0] 37) :: (bw, oC #[nv N y] 37) :: (g, oC #[sB (X.drop ((bsz N + 7) / 8 * (i + 1))), iN (u + (bsz N + 7) / 8 * (i + 1))] 81) :: O12)) (by kernel_rfl) (fun _ => by kernel_rfl) (⟨rfl, rfl, rfl, rfl, ⟨en_ncmp, fun w Hw => ncmp_any (bitN (bsz N) (X.drop ((bsz N + 7) / 8 * i))) lv8 hsv N y w ((hN14.get 0 rfl).at (Has.tl (Has.tl (Has.tl (Has.tl Hw))))) (hN0_16.at (Has.tl (Has.tl (Has.tl (Has.tl Hw)))))⟩, fun ac19 wd19 FF19 MM19 => then_n ?_⟩))
    by_cases hs37 : (cmpN (bitN (bsz N) (X.drop ((bsz N + 7) / 8 * i))) N) < ((0 : Nat) : Int)
    · refine wp_cond_true ((FF19.ev 0 rfl).trans (dec_t hs37)) ?_
      have hE := und_yes hI hlt ((cmp_neg _ _).1 hs37)
      refine wp_seq (rg_seq FF19 MM19 [b_ 0, b_ 1, o_] [9, 29, 28, 8, 6, 4, 0, 2, 7] (fun Kt => bv = bv ∧ (#[nv (bitN (bsz N) (X.drop ((bsz N + 7) / 8 * i))) lv8] : Array Value).size = 1 ∧ br = br ∧ (#[.slice none 0 0] : Array Value).size = 1 ∧ (#[nv (bitN (bsz N) (X.drop ((bsz N + 7) / 8 * i))) lv8] : Array Value).size = 1 ∧ (#[nv (bitN (bsz N) (X.drop ((bsz N + 7) / 8 * i))) lv8] : Array Value).all (·.oneCell') = true ∧ (0, 0).2 = 0 ∧ Kt [(7, iN 0), (9, pT bv), (29, iN i), (28, iN k), (8, iN (bsz N)), (6, pT br), (4, pT bw), (0, pT g), (2, iN k)] ((bv, oC #[nv (bitN (bsz N) (X.drop ((bsz N + 7) / 8 * i))) lv8] 37) :: (br, oC #[nv (bitN (bsz N) (X.drop ((bsz N + 7) / 8 * i))) lv8] 37) :: (bw, oC #[nv N y] 37) :: (g, oC #[sB (X.drop ((bsz N + 7) / 8 * (i + 1))), iN (u + (bsz N + 7) / 8 * (i + 1))] 81) :: O12)) (by kernel_rfl) (fun _ => by kernel_rfl) (⟨rfl, rfl, rfl, rfl, rfl, (by kernel_rfl), rfl, fun ac20 wd20 FF20 MM20 => then_n ?_⟩))
      refine wp_ret ?_
      repeat first | refine then_ret ?_ | refine inb_ret ?_
      exact (ret_ct FF20 MM20 (k := 1) (i := 1) (j := 5) (m := 0) Tryd.results47 rfl rfl rfl Tryd.underlying37 rfl (by kernel_rfl) rfl (by rw [hE]; exact ⟨lv8, rfl, MM20.turn (Has.tl H) 3 rfl (fun _ hx => List.mem_cons_of_mem _ (List.mem_cons_of_mem _ (List.mem_cons_of_mem _ (List.mem_cons_of_mem _ (hz17 _ hx))))), (hN14.get 0 rfl).at (Has.tl (Has.tl (Has.tl (Has.tl MM20.hasL)))), fun q hq => Nat.le_trans hsz (hfr q hq)⟩))
    · refine wp_cond_false ((FF19.ev 0 rfl).trans (dec_f hs37)) ?_
      have hno := fun h => hs37 ((cmp_neg _ _).2 h)
      refine wp_skip ?_
      refine inb_n (then_n ?_)
      refine rg_seq FF19 MM19 [o_, o_] [9, 29, 28, 8, 6, 4, 0, 2] (fun Kt => i + 1 < 9223372036854775808 ∧ Kt [(29, iN (i + 1)), (9, pT bv), (28, iN k), (8, iN (bsz N)), (6, pT br), (4, pT bw), (0, pT g), (2, iN k)] ((bv, oC #[nv (bitN (bsz N) (X.drop ((bsz N + 7) / 8 * i))) lv8] 37) :: (br, oC #[.slice none 0 0] 37) :: (bw, oC #[nv N y] 37) :: (g, oC #[sB (X.drop ((bsz N + 7) / 8 * (i + 1))), iN (u + (bsz N + 7) / 8 * (i + 1))] 81) :: O12)) (by kernel_rfl) (fun _ => by kernel_rfl) (⟨(by omega), fun ac21 wd21 FF21 MM21 => ?_⟩)
      have hd := cnt_of (FF21.get 0 rfl)
      refine then_n ⟨⟨O12, i + 1, by omega, hz17, und_no hI hlt hno, FF21.pick [0, 2, 3, 4, 5, 6, 7], (MM21.dropAt 0)⟩, ?_⟩
      rw [hc, hd]; omega
  · skip
    refine then_n (.inr ⟨(FF6.ev 0 rfl).trans (dec_f hlt), ?_⟩)
    have hik : i = k := by omega
    subst hik
    have hE := und_end hI
    refine then_n ?_
    refine wp_seq (rg_seq FF6 MM6 [o_, b_ 0, o_] [29, 28, 8, 6, 4, 0, 2, 7] (fun Kt => br = br ∧ (#[.slice none 0 0] : Array Value).size = 1 ∧ (#[.slice none 0 0] : Array Value).size = 1 ∧ (#[.slice none 0 0] : Array Value).all (·.oneCell') = true ∧ (0, 0).2 = 0 ∧ Kt [(7, iN 3), (29, iN i), (28, iN i), (8, iN (bsz N)), (6, pT br), (4, pT bw), (0, pT g), (2, iN i)] ((br, oC #[.slice none 0 0] 37) :: (bw, oC #[nv N y] 37) :: (g, oC #[sB (X.drop ((bsz N + 7) / 8 * i)), iN (u + (bsz N + 7) / 8 * i)] 81) :: O1)) (by kernel_rfl) (fun _ => by kernel_rfl) (⟨rfl, rfl, rfl, (by kernel_rfl), rfl, fun ac22 wd22 FF22 MM22 => then_n ?_⟩))
    refine wp_ret ?_
    repeat first | refine then_ret ?_ | refine inb_ret ?_
    exact (ret_ct FF22 MM22 (k := 1) (i := 0) (j := 4) (m := 0) Tryd.results47 rfl rfl rfl Tryd.underlying37 rfl (by kernel_rfl) rfl (by rw [hE]; exact ⟨.slice none 0 0, rfl, MM22.turn (Has.tl H) 2 rfl (fun _ hx => List.mem_cons_of_mem _ (List.mem_cons_of_mem _ (List.mem_cons_of_mem _ (hsb _ hx)))), natNew_nil _ _⟩))
theorem tunder_any (g : Nat) (X : List Nat) (u : Nat) (hX : ∀ i, X.getD i 0 < 256) (hu : u < 4611686018427000000) (N : Nat) (y : Value) (k : Nat) (h1 : 1 ≤ bsz N) (hb : bsz N ≤ 1024) (hk1 : 1 ≤ k) (hk : k ≤ 16) (w0 : World) (hg : w0.heap[g]? = some (TB X u)) (hN : NatIn w0 (nv N y) N) (hne : ∀ g', (nv N y).ownBlock = some g' → g' ≠ g) :
    Calls Tryd.prog 47 #[pT g, .agg #[nv N y], iN k] w0 fun e w' => ∃ v, e = .returned (.tuple #[.agg #[nv (undN N (bsz N) k X).1 v], iN ((undN N (bsz N) k X).2.1)]) ∧ Turn g (TB (X.drop (undN N (bsz N) k X).2.2) (u + (undN N (bsz N) k X).2.2)) w0 w' ∧ NatNew w0.heap.size w' (nv (undN N (bsz N) k X).1 v) (undN N (bsz N) k X).1 := by
  obtain ⟨O, q1, q2, q3⟩ := nat1_sep hN hg hne
  exact tunder_O g X u hX hu N y k O q3 h1 hb hk1 hk w0 q1 q2
end Go.Proofs.YtlljedijldkcbaaDoor
namespace Go.Proofs.YtlljedijldkcbaaDoor
open Go.RowKit
set_option maxRecDepth 100000 in
theorem tunder_tloO (O : Blks) (hD : Distinct O) (g : Nat) (N : Nat) (y : Value) (hN : NatO O (nv N y) N) (hs : qsz N < 1000000) (t : Int) (h1 : 1 ≤ bsz N) (hb : bsz N ≤ 1024) (hz : t < 1)  (w0 : World) (H : Has w0 O) :
    Calls Tryd.prog 47 #[pT g, .agg #[nv N y], .int .i64 t] w0 fun e w' => e = .returned (.tuple #[.agg #[.slice none 0 0], iN 1]) ∧ Below w0.heap.size w0 w' := by
  refine enter_fr Tryd.func47 rfl Tryd.ntmps47 (by simp) fun ac (FF : Fr 41 ac [(0, pT g), (1, aG #[nv N y]), (2, .int .i64 (t : Int))]) => ?_
  have MM : MemS (fun k => k < w0.heap.size ∧ ∀ x ∈ O, x.1 ≠ k) w0 w0 O [] := MemS.startN H hD
  refine wp_seq (rg_seq FF MM [o_, o_, o_] [0, 2, 4, 6, 7] (fun Kt => ∀ bw, ∀ br, Kt [(7, iN 0), (6, pT br), (4, pT bw), (0, pT g), (2, .int .i64 (t : Int))] ((br, oC #[.slice none 0 0] 37) :: (bw, oC #[nv N y] 37) :: O)) (by kernel_rfl) (fun _ => by kernel_rfl) (fun bw => fun br => fun ac1 wd1 FF1 MM1 => then_n ?_))
  refine wp_seq (rg_seq FF1 MM1 [b_ 1, u_ 1 (iN (bsz N)), o_] [7, 6, 4, 0, 2, 8] (fun Kt => bw = bw ∧ (#[nv N y] : Array Value).size = 1 ∧ CallP Tryd.prog 35 [aG #[nv N y]] ((br, oC #[.slice none 0 0] 37) :: (bw, oC #[nv N y] 37) :: O) (iN (bsz N)) ∧ Kt [(8, iN (bsz N)), (7, iN 0), (6, pT br), (4, pT bw), (0, pT g), (2, .int .i64 (t : Int))] ((br, oC #[.slice none 0 0] 37) :: (bw, oC #[nv N y] 37) :: O)) (by kernel_rfl) (fun _ => by kernel_rfl) (⟨rfl, rfl, ⟨en_nbits, fun w Hw => nbits_any N y hs w (hN.at (Has.tl (Has.tl Hw)))⟩, fun ac2 wd2 FF2 MM2 => then_n ?_⟩))
  refine wp_seq ?_
  refine wp_seq (rg_seq FF2 MM2 [o_, f_ (.bool false), o_, o_, w_ 3, o_, o_, o_, w_ 3, o_, o_, o_, t_ (.bool false), o_, o_] [8, 7, 6, 4, 0, 2, 26] (fun Kt => RunV Tryd.prog [(12, pT g), (8, iN (bsz N)), (7, iN 0), (6, pT br), (4, pT bw), (0, pT g), (2, .int .i64 (t : Int))] ((br, oC #[.slice none 0 0] 37) :: (bw, oC #[nv N y] 37) :: O) (opAt Tryd.f47 2 1) (.bool false) ∧ ¬ ((bsz N) < 1) ∧ ¬ ((bsz N) > 1024) ∧ CallP Tryd.prog 61 [.int .i64 (t : Int)] [] (.bool false) ∧ Kt [(26, .bool true), (8, iN (bsz N)), (7, iN 0), (6, pT br), (4, pT bw), (0, pT g), (2, .int .i64 (t : Int))] ((br, oC #[.slice none 0 0] 37) :: (bw, oC #[nv N y] 37) :: O)) (by kernel_rfl) (fun _ => by kernel_rfl) (⟨(ptrSome_ok (t := 48) (t' := 48) (x := (.tmp 12)) (y := (.const (.pointer none))) (by kernel_rfl) rfl rfl Tryd.underlying48), (by omega), (by omega), (callP_of en_maybe (maybe_lo t hz) _), fun ac3 wd3 FF3 MM3 => then_n ?_⟩))
  refine wp_cond_true (FF3.ev 0 rfl) ?_
  refine wp_seq (rg_seq FF3 MM3 [o_, b_ 0, o_] [8, 7, 6, 4, 0, 2] (fun Kt => br = br ∧ (#[.slice none 0 0] : Array Value).size = 1 ∧ (#[.slice none 0 0] : Array Value).size = 1 ∧ (#[.slice none 0 0] : Array Value).all (·.oneCell') = true ∧ (0, 0).2 = 0 ∧ Kt [(7, iN 1), (8, iN (bsz N)), (6, pT br), (4, pT bw), (0, pT g), (2, .int .i64 (t : Int))] ((br, oC #[.slice none 0 0] 37) :: (bw, oC #[nv N y] 37) :: O)) (by kernel_rfl) (fun _ => by kernel_rfl) (⟨rfl, rfl, rfl, (by kernel_rfl), rfl, fun ac4 wd4 FF4 MM4 => then_n ?_⟩))
  refine wp_ret ?_
  repeat first | refine then_ret ?_ | refine inb_ret ?_
  exact (ret_ct FF4 MM4 (k := 1) (i := 0) (j := 2) (m := 0) Tryd.results47 rfl rfl rfl Tryd.underlying37 rfl (by kernel_rfl) rfl ⟨rfl, MM4.belowN H (fun _ hx => List.mem_cons_of_mem _ (List.mem_cons_of_mem _ (hx)))⟩)
theorem tunder_tlo (g : Nat) (N : Nat) (y : Value) (hs : qsz N < 1000000) (t : Int) (h1 : 1 ≤ bsz N) (hb : bsz N ≤ 1024) (hz : t < 1) (w : World) (hN : NatIn w (nv N y) N) : Calls Tryd.prog 47 #[pT g, .agg #[nv N y], .int .i64 t] w fun e w' => e = .returned (.tuple #[.agg #[.slice none 0 0], iN 1]) ∧ Below w.heap.size w w' := by
  obtain ⟨O, h1_, h2_, h3_⟩ := nat1_O hN
  exact tunder_tloO O h2_ g N y h3_ hs t h1 hb hz w h1_
set_option maxRecDepth 100000 in
theorem tunder_thiO (O : Blks) (hD : Distinct O) (g : Nat) (N : Nat) (y : Value) (hN : NatO O (nv N y) N) (hs : qsz N < 1000000) (t : Int) (h1 : 1 ≤ bsz N) (hb : bsz N ≤ 1024) (hz : t > 16)  (w0 : World) (H : Has w0 O) :
    Calls Tryd.prog 47 #[pT g, .agg #[nv N y], .int .i64 t] w0 fun e w' => e = .returned (.tuple #[.agg #[.slice none 0 0], iN 1]) ∧ Below w0.heap.size w0 w' := by
  refine enter_fr Tryd.func47 rfl Tryd.ntmps47 (by simp) fun ac (FF : Fr 41 ac [(0, pT g), (1, aG #[nv N y]), (2, .int .i64 (t : Int))]) => ?_
  have MM : MemS (fun k => k < w0.heap.size ∧ ∀ x ∈ O, x.1 ≠ k) w0 w0 O [] := MemS.startN H hD
  refine wp_seq (rg_seq FF MM [o_, o_, o_] [0, 2, 4, 6, 7] (fun Kt => ∀ bw, ∀ br, Kt [(7, iN 0), (6, pT br), (4, pT bw), (0, pT g), (2, .int .i64 (t : Int))] ((br, oC #[.slice none 0 0] 37) :: (bw, oC #[nv N y] 37) :: O)) (by kernel_rfl) (fun _ => by kernel_rfl) (fun bw => fun br => fun ac1 wd1 FF1 MM1 => then_n ?_))
  refine wp_seq (rg_seq FF1 MM1 [b_ 1, u_ 1 (iN (bsz N)), o_] [7, 6, 4, 0, 2, 8] (fun Kt => bw = bw ∧ (#[nv N y] : Array Value).size = 1 ∧ CallP Tryd.prog 35 [aG #[nv N y]] ((br, oC #[.slice none 0 0] 37) :: (bw, oC #[nv N y] 37) :: O) (iN (bsz N)) ∧ Kt [(8, iN (bsz N)), (7, iN 0), (6, pT br), (4, pT bw), (0, pT g), (2, .int .i64 (t : Int))] ((br, oC #[.slice none 0 0] 37) :: (bw, oC #[nv N y] 37) :: O)) (by kernel_rfl) (fun _ => by kernel_rfl) (⟨rfl, rfl, ⟨en_nbits, fun w Hw => nbits_any N y hs w (hN.at (Has.tl (Has.tl Hw)))⟩, fun ac2 wd2 FF2 MM2 => then_n ?_⟩))
  refine wp_seq ?_
  refine wp_seq (rg_seq FF2 MM2 [o_, f_ (.bool false), o_, o_, w_ 3, o_, o_, o_, w_ 3, o_, o_, o_, t_ (.bool false), o_, o_] [8, 7, 6, 4, 0, 2, 26] (fun Kt => RunV Tryd.prog [(12, pT g), (8, iN (bsz N)), (7, iN 0), (6, pT br), (4, pT bw), (0, pT g), (2, .int .i64 (t : Int))] ((br, oC #[.slice none 0 0] 37) :: (bw, oC #[nv N y] 37) :: O) (opAt Tryd.f47 2 1) (.bool false) ∧ ¬ ((bsz N) < 1) ∧ ¬ ((bsz N) > 1024) ∧ CallP Tryd.prog 61 [.int .i64 (t : Int)] [] (.bool false) ∧ Kt [(26, .bool true), (8, iN (bsz N)), (7, iN 0), (6, pT br), (4, pT bw), (0, pT g), (2, .int .i64 (t : Int))] ((br, oC #[.slice none 0 0] 37) :: (bw, oC #[nv N y] 37) :: O)) (by kernel_rfl) (fun _ => by kernel_rfl) (⟨(ptrSome_ok (t := 48) (t' := 48) (x := (.tmp 12)) (y := (.const (.pointer none))) (by kernel_rfl) rfl rfl Tryd.underlying48), (by omega), (by omega), (callP_of en_maybe (maybe_hi t hz) _), fun ac3 wd3 FF3 MM3 => then_n ?_⟩))
  refine wp_cond_true (FF3.ev 0 rfl) ?_
  refine wp_seq (rg_seq FF3 MM3 [o_, b_ 0, o_] [8, 7, 6, 4, 0, 2] (fun Kt => br = br ∧ (#[.slice none 0 0] : Array Value).size = 1 ∧ (#[.slice none 0 0] : Array Value).size = 1 ∧ (#[.slice none 0 0] : Array Value).all (·.oneCell') = true ∧ (0, 0).2 = 0 ∧ Kt [(7, iN 1), (8, iN (bsz N)), (6, pT br), (4, pT bw), (0, pT g), (2, .int .i64 (t : Int))] ((br, oC #[.slice none 0 0] 37) :: (bw, oC #[nv N y] 37) :: O)) (by kernel_rfl) (fun _ => by kernel_rfl) (⟨rfl, rfl, rfl, (by kernel_rfl), rfl, fun ac4 wd4 FF4 MM4 => then_n ?_⟩))
  refine wp_ret ?_
  repeat first | refine then_ret ?_ | refine inb_ret ?_
  exact (ret_ct FF4 MM4 (k := 1) (i := 0) (j := 2) (m := 0) Tryd.results47 rfl rfl rfl Tryd.underlying37 rfl (by kernel_rfl) rfl ⟨rfl, MM4.belowN H (fun _ hx => List.mem_cons_of_mem _ (List.mem_cons_of_mem _ (hx)))⟩)
theorem tunder_thi (g : Nat) (N : Nat) (y : Value) (hs : qsz N < 1000000) (t : Int) (h1 : 1 ≤ bsz N) (hb : bsz N ≤ 1024) (hz : t > 16) (w : World) (hN : NatIn w (nv N y) N) : Calls Tryd.prog 47 #[pT g, .agg #[nv N y], .int .i64 t] w fun e w' => e = .returned (.tuple #[.agg #[.slice none 0 0], iN 1]) ∧ Below w.heap.size w w' := by
  obtain ⟨O, h1_, h2_, h3_⟩ := nat1_O hN
  exact tunder_thiO O h2_ g N y h3_ hs t h1 hb hz w h1_
end Go.Proofs.YtlljedijldkcbaaDoor
namespace Go.Proofs.YtlljedijldkcbaaDoor
open Go.RowKit
theorem en_rtrim : Enters Tryd.prog 46 := fun args w => by simp [go_sem]
theorem en_rdigit : Enters Tryd.prog 59 := fun args w => by simp [go_sem]
theorem en_rbytes : Enters Tryd.prog 24 := fun args w => by simp [go_sem]
theorem en_rof : Enters Tryd.prog 39 := fun args w => by simp [go_sem]
theorem en_radd : Enters Tryd.prog 40 := fun args w => by simp [go_sem]
theorem en_rcmp : Enters Tryd.prog 45 := fun args w => by simp [go_sem]
theorem en_rbits : Enters Tryd.prog 63 := fun args w => by simp [go_sem]
theorem en_rmul : Enters Tryd.prog 41 := fun args w => by simp [go_sem]
theorem en_rpow : Enters Tryd.prog 42 := fun args w => by simp [go_sem]
theorem lies_cn {w : World} {b : Nat} {X : List Nat} {T : TypeId} {fr : Nat × Nat} (h : w.heap[b]? = some (.cells (cn .u8 X) T fr)) : ∀ (j : Nat) u, (bcells X)[j]? = some u → w.cell? ((⟨b, 0, none⟩ : Addr).add j) = some u := fun j u hu => by
  rw [add_off, cell_of h, ← hu, ← bcells_cn]; simp
set_option maxRecDepth 100000 in
theorem trim_any (X : List Nat) (hX : ∀ i, X.getD i 0 < 256) (hl : X.length < 4611686018427387904) (w0 : World) :
    Calls Tryd.prog 46 #[sB X] w0 fun e w' => e = .returned (sB (minB (leV X))) ∧ Below w0.heap.size w0 w' := by
  refine enter_fr Tryd.func46 rfl Tryd.ntmps46 (by simp) fun ac (FF : Fr 20 ac [(0, sB X)]) => ?_
  have MM := MemS.start w0
  refine wp_seq (rg_seq FF MM [o_] [0, 2] (fun Kt => Kt [(2, sB []), (0, sB X)] []) (by kernel_rfl) (fun _ => by kernel_rfl) (fun ac1 wd1 FF1 MM1 => then_n ?_))
  refine wp_seq (rg_seq FF1 MM1 [o_, t_ (iN X.length), o_] [2, 0, 3] (fun Kt => iN ((bs X).size) = iN X.length ∧ Kt [(3, iN X.length), (2, sB []), (0, sB X)] []) (by kernel_rfl) (fun _ => by kernel_rfl) (⟨(vI (bs_size _)), fun ac2 wd2 FF2 MM2 => then_n ?_⟩))
  refine wp_seq ?_
  refine wp_for2w (fun a' w' => ∃ n : Nat, n ≤ X.length ∧ (∀ i, n ≤ i → X.getD i 0 = 0) ∧ Fr 20 a' [(3, iN n), (2, sB []), (0, sB X)] ∧ MemS (fun k => k < w0.heap.size) w0 w' [] []) (fun a' _ => (cnt 3 a').toNat) ⟨X.length, Nat.le_refl _, (fun _ h => getD_out h), FF2.pick [0, 1, 2], MM2⟩ ?_
  rintro ac3 wd3 ⟨n, hn, h0, FF3, MM3⟩
  have hc := cnt_of (FF3.get 0 rfl)
  by_cases h1 : n > 0
  · by_cases h2 : X.getD (n - 1) 0 = 0
    · skip
      refine rg_seq FF3 MM3 [o_, w_ 2, o_, o_, o_, o_, t_ (iB (X.getD (n - 1) 0)), w_ 2, o_] [3, 2, 0, 14] (fun Kt => n > 0 ∧ 1 ≤ n ∧ n - 1 < 9223372036854775808 ∧ (n - 1) < (bs X).size ∧ (nl (bs X)).getD (n - 1) 0 = X.getD (n - 1) 0 ∧ (X.getD (n - 1) 0) = 0 ∧ Kt [(14, .bool true), (3, iN n), (2, sB []), (0, sB X)] []) (by kernel_rfl) (fun _ => by kernel_rfl) (⟨(by omega), (by omega), (by omega), (by simp only [bs_size]; omega), (byte_bs hX _), (by have := hX (n - 1); omega), fun ac4 wd4 FF4 MM4 => ?_⟩)
      refine then_n (.inl ⟨FF4.ev 0 rfl, ?_⟩)
      refine rg_seq FF4 MM4 [o_, o_, o_] [3, 2, 0] (fun Kt => 1 ≤ n ∧ n - 1 < 9223372036854775808 ∧ Kt [(3, iN (n - 1)), (2, sB []), (0, sB X)] []) (by kernel_rfl) (fun _ => by kernel_rfl) (⟨(by omega), (by omega), fun ac5 wd5 FF5 MM5 => ?_⟩)
      refine inb_n ?_
      have hd := cnt_of (FF5.get 0 rfl)
      refine then_n ⟨⟨n - 1, by omega, fun i hi => (Nat.eq_or_lt_of_le hi).elim (fun e => e ▸ h2) (fun h => h0 i (by omega)), FF5.pick [0, 1, 2], MM5⟩, ?_⟩
      rw [hc, hd]; omega
    · skip
      refine rg_seq FF3 MM3 [o_, w_ 2, o_, o_, o_, o_, t_ (iB (X.getD (n - 1) 0)), w_ 3, o_] [3, 2, 0, 14] (fun Kt => n > 0 ∧ 1 ≤ n ∧ n - 1 < 9223372036854775808 ∧ (n - 1) < (bs X).size ∧ (nl (bs X)).getD (n - 1) 0 = X.getD (n - 1) 0 ∧ ¬ ((X.getD (n - 1) 0) = 0) ∧ Kt [(14, .bool false), (3, iN n), (2, sB []), (0, sB X)] []) (by kernel_rfl) (fun _ => by kernel_rfl) (⟨(by omega), (by omega), (by omega), (by simp only [bs_size]; omega), (byte_bs hX _), (by have := hX (n - 1); omega), fun ac6 wd6 FF6 MM6 => ?_⟩)
      refine then_n (.inr ⟨FF6.ev 0 rfl, ?_⟩)
      refine then_n ?_
      refine wp_seq (rg_seq FF6 MM6 [o_, o_, t_ (sB (minB (leV X))), o_] [3, 2, 0] (fun Kt => 0 ≤ n ∧ n ≤ (bs X).size ∧ Value.string ((bs X).extract 0 n) = sB (minB (leV X)) ∧ Kt [(2, sB (minB (leV X))), (3, iN n), (0, sB X)] []) (by kernel_rfl) (fun _ => by kernel_rfl) (⟨(Nat.zero_le _), (by simp only [bs_size]; omega), (vS2 ((bs_extract _ _ _).trans (congrArg bs ((List.drop_zero ..).trans (trim_ok hX hn h0 (by first | exact .inl (by omega) | exact .inr h2)))))), fun ac7 wd7 FF7 MM7 => then_n ?_⟩))
      refine wp_ret ?_
      repeat first | refine then_ret ?_ | refine inb_ret ?_
      exact (ret_fr FF7 0 Tryd.results46 rfl ⟨rfl, MM7.below⟩)
  · skip
    refine rg_seq FF3 MM3 [o_, w_ 3, o_, o_, o_, o_, o_, o_, o_] [3, 2, 0, 14] (fun Kt => ¬ (n > 0) ∧ Kt [(14, .bool false), (3, iN n), (2, sB []), (0, sB X)] []) (by kernel_rfl) (fun _ => by kernel_rfl) (⟨(by omega), fun ac8 wd8 FF8 MM8 => ?_⟩)
    refine then_n (.inr ⟨FF8.ev 0 rfl, ?_⟩)
    refine then_n ?_
    refine wp_seq (rg_seq FF8 MM8 [o_, o_, t_ (sB (minB (leV X))), o_] [3, 2, 0] (fun Kt => 0 ≤ n ∧ n ≤ (bs X).size ∧ Value.string ((bs X).extract 0 n) = sB (minB (leV X)) ∧ Kt [(2, sB (minB (leV X))), (3, iN n), (0, sB X)] []) (by kernel_rfl) (fun _ => by kernel_rfl) (⟨(Nat.zero_le _), (by simp only [bs_size]; omega), (vS2 ((bs_extract _ _ _).trans (congrArg bs ((List.drop_zero ..).trans (trim_ok hX hn h0 (by first | exact .inl (by omega) | exact .inr h2)))))), fun ac9 wd9 FF9 MM9 => then_n ?_⟩))
    refine wp_ret ?_
    repeat first | refine then_ret ?_ | refine inb_ret ?_
    exact (ret_fr FF9 0 Tryd.results46 rfl ⟨rfl, MM9.below⟩)
set_option maxRecDepth 100000 in
theorem digit_any (X : List Nat) (hX : ∀ i, X.getD i 0 < 256) (i : Nat) (w0 : World) :
    Calls Tryd.prog 59 #[sB X, iN i] w0 fun e w' => e = .returned (iN (X.getD i 0)) ∧ Below w0.heap.size w0 w' := by
  refine enter_fr Tryd.func59 rfl Tryd.ntmps59 (by simp) fun ac (FF : Fr 13 ac [(0, sB X), (1, iN i)]) => ?_
  have MM := MemS.start w0
  refine wp_seq (rg_seq FF MM [o_] [0, 1, 4] (fun Kt => Kt [(4, iN 0), (0, sB X), (1, iN i)] []) (by kernel_rfl) (fun _ => by kernel_rfl) (fun ac1 wd1 FF1 MM1 => then_n ?_))
  refine wp_seq ?_
  refine wp_seq (rg_seq FF1 MM1 [o_, o_, t_ (iN X.length), o_] [4, 0, 1, 8] (fun Kt => iN ((bs X).size) = iN X.length ∧ Kt [(8, .bool (decide (i < X.length))), (4, iN 0), (0, sB X), (1, iN i)] []) (by kernel_rfl) (fun _ => by kernel_rfl) (⟨(vI (bs_size _)), fun ac2 wd2 FF2 MM2 => then_n ?_⟩))
  by_cases hs8 : i < X.length
  · refine wp_cond_true ((FF2.ev 0 rfl).trans (dec_t hs8)) ?_
    refine wp_seq (rg_seq FF2 MM2 [o_, o_, t_ (iB (X.getD i 0)), w_ 1, o_] [4, 0, 1] (fun Kt => i < (bs X).size ∧ (nl (bs X)).getD i 0 = X.getD i 0 ∧ (X.getD i 0) < 9223372036854775808 ∧ Kt [(4, iN (X.getD i 0)), (0, sB X), (1, iN i)] []) (by kernel_rfl) (fun _ => by kernel_rfl) (⟨(by simp only [bs_size]; omega), (byte_bs hX _), (by have := hX i; omega), fun ac3 wd3 FF3 MM3 => then_n ?_⟩))
    refine wp_ret ?_
    repeat first | refine then_ret ?_ | refine inb_ret ?_
    exact (ret_fr FF3 0 Tryd.results59 rfl ⟨rfl, MM3.below⟩)
  · refine wp_cond_false ((FF2.ev 0 rfl).trans (dec_f hs8)) ?_
    refine wp_skip ?_
    refine then_n ?_
    refine wp_seq (rg_seq FF2 MM2 [t_ (iN (X.getD i 0))] [4, 0, 1] (fun Kt => iN 0 = iN (X.getD i 0) ∧ Kt [(4, iN (X.getD i 0)), (0, sB X), (1, iN i)] []) (by kernel_rfl) (fun _ => by kernel_rfl) (⟨(vI (getD_out (by omega)).symm), fun ac4 wd4 FF4 MM4 => then_n ?_⟩))
    refine wp_ret ?_
    repeat first | refine then_ret ?_ | refine inb_ret ?_
    exact (ret_fr FF4 0 Tryd.results59 rfl ⟨rfl, MM4.below⟩)
theorem digm_ok (N i : Nat) (L : Blks) : CallP Tryd.prog 59 [sB (minB N), iN i] L (iN (N / 256 ^ i % 256)) :=
  callP_of en_rdigit (fun w => by have := digit_any (minB N) (minB_lt N) i w; rwa [minB_get] at this) L
set_option maxRecDepth 100000 in
theorem bytes_any (X : List Nat) (hX : ∀ i, X.getD i 0 < 256) (hl : X.length < 4611686018427387904) (w0 : World) :
    Calls Tryd.prog 24 #[sB X] w0 fun e w' => e = .returned (sB (minB (leV X))) ∧ Below w0.heap.size w0 w' := by
  refine enter_fr Tryd.func24 rfl Tryd.ntmps24 (by simp) fun ac (FF : Fr 5 ac [(0, sB X)]) => ?_
  have MM := MemS.start w0
  refine wp_seq (rg_seq FF MM [o_] [0, 2] (fun Kt => Kt [(2, sB []), (0, sB X)] []) (by kernel_rfl) (fun _ => by kernel_rfl) (fun ac1 wd1 FF1 MM1 => then_n ?_))
  refine wp_seq (rg_seq FF1 MM1 [o_, t_ (sB (minB (leV X))), o_] [2] (fun Kt => CallP Tryd.prog 46 [sB X] [] (sB (minB (leV X))) ∧ Kt [(2, sB (minB (leV X)))] []) (by kernel_rfl) (fun _ => by kernel_rfl) (⟨(callP_of en_rtrim (trim_any X hX (by omega)) _), fun ac2 wd2 FF2 MM2 => then_n ?_⟩))
  refine wp_ret ?_
  repeat first | refine then_ret ?_ | refine inb_ret ?_
  exact (ret_fr FF2 0 Tryd.results24 rfl ⟨rfl, MM2.below⟩)
theorem gen_leB (n v : Nat) : genL n (fun i => v / 256 ^ i % 256) n = leB n v := by
  refine ext_getD (by rw [genL_len, leB_len]) fun i hi => ?_
  rw [genL_len] at hi
  rw [genL_get _ _ _ hi, if_pos hi, leB_get hi]
set_option maxRecDepth 100000 in
theorem of_any (v : Nat) (hv : v < 18446744073709551616) (w0 : World) :
    Calls Tryd.prog 39 #[iW v] w0 fun e w' => e = .returned (sB (minB v)) ∧ Below w0.heap.size w0 w' := by
  refine enter_fr Tryd.func39 rfl Tryd.ntmps39 (by simp) fun ac (FF : Fr 20 ac [(0, iW v)]) => ?_
  have MM := MemS.start w0
  refine wp_seq (rg_seq FF MM [o_] [0, 2] (fun Kt => Kt [(2, sB []), (0, iW v)] []) (by kernel_rfl) (fun _ => by kernel_rfl) (fun ac1 wd1 FF1 MM1 => then_n ?_))
  refine wp_seq (rg_seq FF1 MM1 [o_, o_, b_ 0] [2, 0, 3] (fun Kt => ∀ bo, bo = bo ∧ (cn .u8 (List.replicate 8 0)).size = 8 ∧ (cn .u8 (List.replicate 8 0)).size = 8 ∧ (cn .u8 (List.replicate 8 0)).all (·.oneCell') = true ∧ (0, 0).2 = 0 ∧ Kt [(3, pT bo), (2, sB []), (0, iW v)] [(bo, .cells (cn .u8 (List.replicate 8 0)) 93)]) (by kernel_rfl) (fun _ => by kernel_rfl) (fun bo => ⟨rfl, ((cn_size _ _).trans (List.length_replicate ..)), ((cn_size _ _).trans (List.length_replicate ..)), (cn_one _ _), rfl, fun ac2 wd2 FF2 MM2 => then_n ?_⟩))
  have MMr4 : MemS (fun k => k < w0.heap.size) w0 wd2 [(bo, .cells (cn .u8 (genL 8 (fun i => v / 256 ^ i % 256) 0)) 93)] [] := by rw [← genL_zero 8 (fun i => v / 256 ^ i % 256)]; exact MM2
  refine wp_seq ?_
  refine wp_seq (rg_seq FF2 MMr4 [o_] [3, 2, 0, 4] (fun Kt => Kt [(4, iN 0), (3, pT bo), (2, sB []), (0, iW v)] [(bo, .cells (cn .u8 (genL 8 (fun i => v / 256 ^ i % 256) 0)) 93)]) (by kernel_rfl) (fun _ => by kernel_rfl) (fun ac3 wd3 FF3 MM3 => then_n ?_))
  refine wp_for2 (fun a' w' => ∃ j : Nat, j ≤ 8 ∧ Fr 20 a' [(4, iN j), (3, pT bo), (2, sB []), (0, iW v)] ∧ MemS (fun k => k < w0.heap.size) w0 w' [(bo, .cells (cn .u8 (genL 8 (fun i => v / 256 ^ i % 256) j)) 93)] []) (fun a' _ => (8 - cnt 4 a').toNat) ⟨0, by omega, FF3.pick [0, 1, 2, 3], MM3⟩ ?_
  rintro ac4 wd4 ⟨j, hj, FF4, MM4⟩
  have hcj := cnt_of (FF4.get 0 rfl)
  refine rg_seq FF4 MM4 [o_, o_] [4, 3, 2, 0, 7] (fun Kt => Kt [(7, .bool (decide (j < 8))), (4, iN j), (3, pT bo), (2, sB []), (0, iW v)] [(bo, .cells (cn .u8 (genL 8 (fun i => v / 256 ^ i % 256) j)) 93)]) (by kernel_rfl) (fun _ => by kernel_rfl) (fun ac5 wd5 FF5 MM5 => ?_)
  by_cases hltj : j < 8
  · skip
    refine then_n (.inl ⟨(FF5.ev 0 rfl).trans (dec_t hltj), ?_⟩)
    refine rg_seq FF5 MM5 [o_, o_, o_, o_, o_, o_, w_ 1, s_ 0 (.cells (cn .u8 (genL 8 (fun i => v / 256 ^ i % 256) (j + 1))) 93)] [4, 3, 2, 0] (fun Kt => 8 * j < 9223372036854775808 ∧ 8 * j ≤ 64 ∧ j < 8 ∧ bo = bo ∧ j < (cn .u8 (genL 8 (fun i => v / 256 ^ i % 256) j)).size ∧ (((0, 0)).2 = 0 ∨ j < ((0, 0)).1) ∧ (cn .u8 (genL 8 (fun i => v / 256 ^ i % 256) j)).setIfInBounds j (iB ((v / (2 ^ (8 * j))) % 256)) = cn .u8 (genL 8 (fun i => v / 256 ^ i % 256) (j + 1)) ∧ Kt [(4, iN j), (3, pT bo), (2, sB []), (0, iW v)] [(bo, .cells (cn .u8 (genL 8 (fun i => v / 256 ^ i % 256) (j + 1))) 93)]) (by kernel_rfl) (fun _ => by kernel_rfl) (⟨(by omega), (by omega), (by omega), rfl, (by rw [cn_size, (genL_len _ _ _)]; omega), (.inl rfl), ((cn_set _ _ _ _).trans (congrArg _ (genL_step _ _ j (by omega) (by rw [Nat.pow_mul])))), fun ac6 wd6 FF6 MM6 => ?_⟩)
    refine inb_n (then_n ?_)
    refine rg_seq FF6 MM6 [o_, o_, o_] [4, 3, 2, 0] (fun Kt => j + 1 < 9223372036854775808 ∧ Kt [(4, iN (j + 1)), (3, pT bo), (2, sB []), (0, iW v)] [(bo, .cells (cn .u8 (genL 8 (fun i => v / 256 ^ i % 256) (j + 1))) 93)]) (by kernel_rfl) (fun _ => by kernel_rfl) (⟨(by omega), fun ac7 wd7 FF7 MM7 => ?_⟩)
    have hdj := cnt_of (FF7.get 0 rfl)
    refine then_n ⟨⟨j + 1, by omega, FF7.pick [0, 1, 2, 3], MM7⟩, ?_⟩
    rw [hcj, hdj]; omega
  · skip
    refine then_n (.inr ⟨(FF5.ev 0 rfl).trans (dec_f hltj), ?_⟩)
    obtain rfl : j = 8 := by omega
    have MMl : MemS (fun k => k < w0.heap.size) w0 wd5 [(bo, .cells (cn .u8 (leB 8 v)) 93)] [] := by rw [← gen_leB 8 v]; exact MM5
    refine then_n ?_
    refine wp_seq (rg_seq FF5 MMl [o_, l_ 0 (sB (leB 8 v)), t_ (sB (minB v)), o_] [4, 3, 2, 0] (fun Kt => 0 ≤ 8 ∧ 8 ≤ 8 ∧ 0 < 8 ∧ bo = bo ∧ StrAt (cn .u8 (leB 8 v)) 0 8 (bs (leB 8 v)) ∧ CallP Tryd.prog 46 [sB (leB 8 v)] [] (sB (minB v)) ∧ Kt [(2, sB (minB v)), (4, iN 8), (3, pT bo), (0, iW v)] [(bo, .cells (cn .u8 (leB 8 v)) 93)]) (by kernel_rfl) (fun _ => by kernel_rfl) (⟨(by decide), (by decide), (by decide), rfl, (str_all (leB_len _ _) (leB_lt 8 v)), (by have h0 := callP_of en_rtrim (trim_any (leB 8 v) (leB_lt 8 v) (by rw [leB_len]; decide)) []; rw [leV_leB, Nat.mod_eq_of_lt (show v < 256 ^ 8 from hv)] at h0; exact h0), fun ac8 wd8 FF8 MM8 => then_n ?_⟩))
    refine wp_ret ?_
    repeat first | refine then_ret ?_ | refine inb_ret ?_
    exact (ret_fr FF8 0 Tryd.results39 rfl ⟨rfl, MM8.below⟩)
set_option maxRecDepth 100000 in
theorem add8_any (M N : Nat) (hs : sz M + sz N < 1000000) (w0 : World) :
    Calls Tryd.prog 40 #[sB (minB M), sB (minB N)] w0 fun e w' => e = .returned (sB (minB (M + N))) ∧ Below w0.heap.size w0 w' := by
  refine enter_fr Tryd.func40 rfl Tryd.ntmps40 (by simp) fun ac (FF : Fr 43 ac [(0, sB (minB M)), (1, sB (minB N))]) => ?_
  have MM := MemS.start w0
  refine wp_seq (rg_seq FF MM [o_] [0, 1, 4] (fun Kt => Kt [(4, sB []), (0, sB (minB M)), (1, sB (minB N))] []) (by kernel_rfl) (fun _ => by kernel_rfl) (fun ac1 wd1 FF1 MM1 => then_n ?_))
  refine wp_seq (rg_seq FF1 MM1 [o_] [4, 0, 1, 5] (fun Kt => Kt [(5, .slice none 0 0), (4, sB []), (0, sB (minB M)), (1, sB (minB N))] []) (by kernel_rfl) (fun _ => by kernel_rfl) (fun ac2 wd2 FF2 MM2 => then_n ?_))
  have MMn := MM2.rowNil 5 1
  refine wp_seq (rg_seq FF2 MMn [t_ (iN (carB M N 0))] [5, 4, 0, 1, 6] (fun Kt => iN 0 = iN (carB M N 0) ∧ Kt [(6, iN (carB M N 0)), (5, .slice none 0 0), (4, sB []), (0, sB (minB M)), (1, sB (minB N))] []) (by kernel_rfl) (fun _ => by kernel_rfl) (⟨(vI (car_zero M N).symm), fun ac3 wd3 FF3 MM3 => then_n ?_⟩))
  refine wp_seq ?_
  refine wp_seq (rg_seq FF3 MM3 [o_] [6, 5, 4, 0, 1, 7] (fun Kt => Kt [(7, iN 0), (6, iN (carB M N 0)), (5, .slice none 0 0), (4, sB []), (0, sB (minB M)), (1, sB (minB N))] []) (by kernel_rfl) (fun _ => by kernel_rfl) (fun ac4 wd4 FF4 MM4 => then_n ?_))
  refine wp_for2 (fun a' w' => ∃ rv : Value, ∃ i : Nat, i ≤ sz M + sz N + 1 ∧ Fr 43 a' [(7, iN i), (6, iN (carB M N i)), (5, rv), (4, sB []), (0, sB (minB M)), (1, sB (minB N))] ∧ MemS (fun k => k < w0.heap.size) w0 w' [] [(rv, 5, 1, i, (bcells (leB i (M + N))))]) (fun a' _ => (sz M + sz N + 1 - cnt 7 a').toNat) ⟨(.slice none 0 0), 0, by omega, FF4.pick [0, 1, 2, 3, 4, 5], MM4⟩ ?_
  rintro ac5 wd5 ⟨rv, i, hi, FF5, MM5⟩
  have hc := cnt_of (FF5.get 0 rfl)
  by_cases h1 : i < sz M
  · skip
    refine rg_seq FF5 MM5 [o_, o_, t_ (iN (sz M)), w_ 2, o_, o_, o_, o_, o_, o_, o_, o_, o_, o_] [7, 6, 5, 4, 0, 1, 21] (fun Kt => iN ((bs (minB M)).size) = iN (sz M) ∧ i < (sz M) ∧ Kt [(21, .bool true), (7, iN i), (6, iN (carB M N i)), (5, rv), (4, sB []), (0, sB (minB M)), (1, sB (minB N))] []) (by kernel_rfl) (fun _ => by kernel_rfl) (⟨(vI ((bs_size _).trans (minB_len M))), (by omega), fun ac6 wd6 FF6 MM6 => ?_⟩)
    refine then_n (.inl ⟨FF6.ev 0 rfl, ?_⟩)
    refine wp_seq (rg_seq FF6 MM6 [o_, o_, o_, t_ (iN (M / 256 ^ i % 256)), o_, o_, t_ (iN (N / 256 ^ i % 256)), o_, o_, o_] [7, 6, 5, 4, 0, 1] (fun Kt => CallP Tryd.prog 59 [sB (minB M), iN i] [] (iN (M / 256 ^ i % 256)) ∧ CallP Tryd.prog 59 [sB (minB N), iN i] [] (iN (N / 256 ^ i % 256)) ∧ (M / 256 ^ i % 256) + (N / 256 ^ i % 256) < 9223372036854775808 ∧ (carB M N i) + ((M / 256 ^ i % 256) + (N / 256 ^ i % 256)) < 9223372036854775808 ∧ Kt [(6, iN ((carB M N i) + ((M / 256 ^ i % 256) + (N / 256 ^ i % 256)))), (7, iN i), (5, rv), (4, sB []), (0, sB (minB M)), (1, sB (minB N))] []) (by kernel_rfl) (fun _ => by kernel_rfl) (⟨(digm_ok _ _ _), (digm_ok _ _ _), (by omega), (by have := car_lt M N i; omega), fun ac7 wd7 FF7 MM7 => then_n ?_⟩))
    refine wp_seq (wp_region_list ?_)
    refine rg_part 4 FF7 MM7 [o_, o_, t_ (iB ((M + N) / 256 ^ i % 256)), o_] [6, 7, 5, 4, 0, 1, 33, 36] (fun Kt => iB (((carB M N i) + ((M / 256 ^ i % 256) + (N / 256 ^ i % 256))) % 256) = iB ((M + N) / 256 ^ i % 256) ∧ ∀ bq, Kt [(36, .slice (some ⟨bq, 0, none⟩) 1 1), (33, rv), (6, iN ((carB M N i) + ((M / 256 ^ i % 256) + (N / 256 ^ i % 256)))), (7, iN i), (5, rv), (4, sB []), (0, sB (minB M)), (1, sB (minB N))] [(bq, .cells (cn .u8 ([(M + N) / 256 ^ i % 256])) 5)]) (by kernel_rfl) (fun _ => by kernel_rfl) (⟨(vI (car_digit M N i)), fun bq => fun ac8 wd8 FF8 MM8 => ?_⟩)
    refine st_app [6, 7, 5, 4, 0, 1, 37] FF8 MM8 (d := 37) (s := 33) (x := 36) (Y := (bcells [(M + N) / 256 ^ i % 256])) (z := iB 0) (bb := 1) rfl rfl rfl rfl (lies_cn (MM8.get 0 rfl)) (bcells_one _) (by decide) Tryd.underlying67 (by kernel_rfl) rfl (by decide) (by simp only [maxLen]; omega) (by omega) rfl rfl (by decide) fun ac10 wd10 rv9 (FF10 : Fr 43 ac10 [(37, rv9), (6, iN ((carB M N i) + ((M / 256 ^ i % 256) + (N / 256 ^ i % 256)))), (7, iN i), (5, rv), (4, sB []), (0, sB (minB M)), (1, sB (minB N))]) (MM10 : MemS (fun k => k < w0.heap.size) w0 wd10 [(bq, .cells (cn .u8 ([(M + N) / 256 ^ i % 256])) 5)] [(rv9, 5, 1, (i + 1), ((bcells (leB i (M + N))) ++ (bcells [(M + N) / 256 ^ i % 256])))]) => ?_
    rw [bcells_app, ← leB_succ] at MM10
    refine rg_part 1 FF10 MM10 [o_] [6, 7, 5, 4, 0, 1] (fun Kt => Kt [(5, rv9), (6, iN ((carB M N i) + ((M / 256 ^ i % 256) + (N / 256 ^ i % 256)))), (7, iN i), (4, sB []), (0, sB (minB M)), (1, sB (minB N))] [(bq, .cells (cn .u8 ([(M + N) / 256 ^ i % 256])) 5)]) (by kernel_rfl) (fun _ => by kernel_rfl) (fun ac11 wd11 FF11 MM11 => ?_)
    refine wpl_nil (then_n ?_)
    refine rg_seq FF11 MM11 [o_, t_ (iN (carB M N (i + 1))), o_] [5, 6, 7, 4, 0, 1] (fun Kt => 8 ≤ 64 ∧ iN (((carB M N i) + ((M / 256 ^ i % 256) + (N / 256 ^ i % 256))) / 256) = iN (carB M N (i + 1)) ∧ Kt [(6, iN (carB M N (i + 1))), (5, rv9), (7, iN i), (4, sB []), (0, sB (minB M)), (1, sB (minB N))] [(bq, .cells (cn .u8 ([(M + N) / 256 ^ i % 256])) 5)]) (by kernel_rfl) (fun _ => by kernel_rfl) (⟨(by decide), (vI (car_step M N i)), fun ac12 wd12 FF12 MM12 => ?_⟩)
    refine inb_n (then_n ?_)
    refine rg_seq FF12 MM12 [o_, o_, o_] [6, 5, 7, 4, 0, 1] (fun Kt => i + 1 < 9223372036854775808 ∧ Kt [(7, iN (i + 1)), (6, iN (carB M N (i + 1))), (5, rv9), (4, sB []), (0, sB (minB M)), (1, sB (minB N))] [(bq, .cells (cn .u8 ([(M + N) / 256 ^ i % 256])) 5)]) (by kernel_rfl) (fun _ => by kernel_rfl) (⟨(by omega), fun ac13 wd13 FF13 MM13 => ?_⟩)
    have hd := cnt_of (FF13.get 0 rfl)
    refine then_n ⟨⟨rv9, i + 1, (by first | omega | (have := car_more h3; omega)), FF13.pick [0, 1, 2, 3, 4, 5], MM13.sub [] rfl⟩, ?_⟩
    rw [hc, hd]; first | omega | (have := car_more h3; omega)
  · by_cases h2 : i < sz N
    · skip
      refine rg_seq FF5 MM5 [o_, o_, t_ (iN (sz M)), w_ 3, o_, o_, o_, t_ (iN (sz N)), w_ 2, o_, o_, o_, o_, o_] [7, 6, 5, 4, 0, 1, 21] (fun Kt => iN ((bs (minB M)).size) = iN (sz M) ∧ ¬ (i < (sz M)) ∧ iN ((bs (minB N)).size) = iN (sz N) ∧ i < (sz N) ∧ Kt [(21, .bool true), (7, iN i), (6, iN (carB M N i)), (5, rv), (4, sB []), (0, sB (minB M)), (1, sB (minB N))] []) (by kernel_rfl) (fun _ => by kernel_rfl) (⟨(vI ((bs_size _).trans (minB_len M))), (by omega), (vI ((bs_size _).trans (minB_len N))), (by omega), fun ac14 wd14 FF14 MM14 => ?_⟩)
      refine then_n (.inl ⟨FF14.ev 0 rfl, ?_⟩)
      refine wp_seq (rg_seq FF14 MM14 [o_, o_, o_, t_ (iN (M / 256 ^ i % 256)), o_, o_, t_ (iN (N / 256 ^ i % 256)), o_, o_, o_] [7, 6, 5, 4, 0, 1] (fun Kt => CallP Tryd.prog 59 [sB (minB M), iN i] [] (iN (M / 256 ^ i % 256)) ∧ CallP Tryd.prog 59 [sB (minB N), iN i] [] (iN (N / 256 ^ i % 256)) ∧ (M / 256 ^ i % 256) + (N / 256 ^ i % 256) < 9223372036854775808 ∧ (carB M N i) + ((M / 256 ^ i % 256) + (N / 256 ^ i % 256)) < 9223372036854775808 ∧ Kt [(6, iN ((carB M N i) + ((M / 256 ^ i % 256) + (N / 256 ^ i % 256)))), (7, iN i), (5, rv), (4, sB []), (0, sB (minB M)), (1, sB (minB N))] []) (by kernel_rfl) (fun _ => by kernel_rfl) (⟨(digm_ok _ _ _), (digm_ok _ _ _), (by omega), (by have := car_lt M N i; omega), fun ac15 wd15 FF15 MM15 => then_n ?_⟩))
      refine wp_seq (wp_region_list ?_)
      refine rg_part 4 FF15 MM15 [o_, o_, t_ (iB ((M + N) / 256 ^ i % 256)), o_] [6, 7, 5, 4, 0, 1, 33, 36] (fun Kt => iB (((carB M N i) + ((M / 256 ^ i % 256) + (N / 256 ^ i % 256))) % 256) = iB ((M + N) / 256 ^ i % 256) ∧ ∀ bq, Kt [(36, .slice (some ⟨bq, 0, none⟩) 1 1), (33, rv), (6, iN ((carB M N i) + ((M / 256 ^ i % 256) + (N / 256 ^ i % 256)))), (7, iN i), (5, rv), (4, sB []), (0, sB (minB M)), (1, sB (minB N))] [(bq, .cells (cn .u8 ([(M + N) / 256 ^ i % 256])) 5)]) (by kernel_rfl) (fun _ => by kernel_rfl) (⟨(vI (car_digit M N i)), fun bq => fun ac16 wd16 FF16 MM16 => ?_⟩)
      refine st_app [6, 7, 5, 4, 0, 1, 37] FF16 MM16 (d := 37) (s := 33) (x := 36) (Y := (bcells [(M + N) / 256 ^ i % 256])) (z := iB 0) (bb := 1) rfl rfl rfl rfl (lies_cn (MM16.get 0 rfl)) (bcells_one _) (by decide) Tryd.underlying67 (by kernel_rfl) rfl (by decide) (by simp only [maxLen]; omega) (by omega) rfl rfl (by decide) fun ac18 wd18 rv17 (FF18 : Fr 43 ac18 [(37, rv17), (6, iN ((carB M N i) + ((M / 256 ^ i % 256) + (N / 256 ^ i % 256)))), (7, iN i), (5, rv), (4, sB []), (0, sB (minB M)), (1, sB (minB N))]) (MM18 : MemS (fun k => k < w0.heap.size) w0 wd18 [(bq, .cells (cn .u8 ([(M + N) / 256 ^ i % 256])) 5)] [(rv17, 5, 1, (i + 1), ((bcells (leB i (M + N))) ++ (bcells [(M + N) / 256 ^ i % 256])))]) => ?_
      rw [bcells_app, ← leB_succ] at MM18
      refine rg_part 1 FF18 MM18 [o_] [6, 7, 5, 4, 0, 1] (fun Kt => Kt [(5, rv17), (6, iN ((carB M N i) + ((M / 256 ^ i % 256) + (N / 256 ^ i % 256)))), (7, iN i), (4, sB []), (0, sB (minB M)), (1, sB (minB N))] [(bq, .cells (cn .u8 ([(M + N) / 256 ^ i % 256])) 5)]) (by kernel_rfl) (fun _ => by kernel_rfl) (fun ac19 wd19 FF19 MM19 => ?_)
      refine wpl_nil (then_n ?_)
      refine rg_seq FF19 MM19 [o_, t_ (iN (carB M N (i + 1))), o_] [5, 6, 7, 4, 0, 1] (fun Kt => 8 ≤ 64 ∧ iN (((carB M N i) + ((M / 256 ^ i % 256) + (N / 256 ^ i % 256))) / 256) = iN (carB M N (i + 1)) ∧ Kt [(6, iN (carB M N (i + 1))), (5, rv17), (7, iN i), (4, sB []), (0, sB (minB M)), (1, sB (minB N))] [(bq, .cells (cn .u8 ([(M + N) / 256 ^ i % 256])) 5)]) (by kernel_rfl) (fun _ => by kernel_rfl) (⟨(by decide), (vI (car_step M N i)), fun ac20 wd20 FF20 MM20 => ?_⟩)
      refine inb_n (then_n ?_)
      refine rg_seq FF20 MM20 [o_, o_, o_] [6, 5, 7, 4, 0, 1] (fun Kt => i + 1 < 9223372036854775808 ∧ Kt [(7, iN (i + 1)), (6, iN (carB M N (i + 1))), (5, rv17), (4, sB []), (0, sB (minB M)), (1, sB (minB N))] [(bq, .cells (cn .u8 ([(M + N) / 256 ^ i % 256])) 5)]) (by kernel_rfl) (fun _ => by kernel_rfl) (⟨(by omega), fun ac21 wd21 FF21 MM21 => ?_⟩)
      have hd := cnt_of (FF21.get 0 rfl)
      refine then_n ⟨⟨rv17, i + 1, (by first | omega | (have := car_more h3; omega)), FF21.pick [0, 1, 2, 3, 4, 5], MM21.sub [] rfl⟩, ?_⟩
      rw [hc, hd]; first | omega | (have := car_more h3; omega)
    · by_cases h3 : carB M N i > 0
      · skip
        refine rg_seq FF5 MM5 [o_, o_, t_ (iN (sz M)), w_ 3, o_, o_, o_, t_ (iN (sz N)), w_ 3, o_, o_, o_, w_ 2, o_] [7, 6, 5, 4, 0, 1, 21] (fun Kt => iN ((bs (minB M)).size) = iN (sz M) ∧ ¬ (i < (sz M)) ∧ iN ((bs (minB N)).size) = iN (sz N) ∧ ¬ (i < (sz N)) ∧ (carB M N i) > 0 ∧ Kt [(21, .bool true), (7, iN i), (6, iN (carB M N i)), (5, rv), (4, sB []), (0, sB (minB M)), (1, sB (minB N))] []) (by kernel_rfl) (fun _ => by kernel_rfl) (⟨(vI ((bs_size _).trans (minB_len M))), (by omega), (vI ((bs_size _).trans (minB_len N))), (by omega), (by have := car_lt M N i; omega), fun ac22 wd22 FF22 MM22 => ?_⟩)
        refine then_n (.inl ⟨FF22.ev 0 rfl, ?_⟩)
        refine wp_seq (rg_seq FF22 MM22 [o_, o_, o_, t_ (iN (M / 256 ^ i % 256)), o_, o_, t_ (iN (N / 256 ^ i % 256)), o_, o_, o_] [7, 6, 5, 4, 0, 1] (fun Kt => CallP Tryd.prog 59 [sB (minB M), iN i] [] (iN (M / 256 ^ i % 256)) ∧ CallP Tryd.prog 59 [sB (minB N), iN i] [] (iN (N / 256 ^ i % 256)) ∧ (M / 256 ^ i % 256) + (N / 256 ^ i % 256) < 9223372036854775808 ∧ (carB M N i) + ((M / 256 ^ i % 256) + (N / 256 ^ i % 256)) < 9223372036854775808 ∧ Kt [(6, iN ((carB M N i) + ((M / 256 ^ i % 256) + (N / 256 ^ i % 256)))), (7, iN i), (5, rv), (4, sB []), (0, sB (minB M)), (1, sB (minB N))] []) (by kernel_rfl) (fun _ => by kernel_rfl) (⟨(digm_ok _ _ _), (digm_ok _ _ _), (by omega), (by have := car_lt M N i; omega), fun ac23 wd23 FF23 MM23 => then_n ?_⟩))
        refine wp_seq (wp_region_list ?_)
        refine rg_part 4 FF23 MM23 [o_, o_, t_ (iB ((M + N) / 256 ^ i % 256)), o_] [6, 7, 5, 4, 0, 1, 33, 36] (fun Kt => iB (((carB M N i) + ((M / 256 ^ i % 256) + (N / 256 ^ i % 256))) % 256) = iB ((M + N) / 256 ^ i % 256) ∧ ∀ bq, Kt [(36, .slice (some ⟨bq, 0, none⟩) 1 1), (33, rv), (6, iN ((carB M N i) + ((M / 256 ^ i % 256) + (N / 256 ^ i % 256)))), (7, iN i), (5, rv), (4, sB []), (0, sB (minB M)), (1, sB (minB N))] [(bq, .cells (cn .u8 ([(M + N) / 256 ^ i % 256])) 5)]) (by kernel_rfl) (fun _ => by kernel_rfl) (⟨(vI (car_digit M N i)), fun bq => fun ac24 wd24 FF24 MM24 => ?_⟩)
        refine st_app [6, 7, 5, 4, 0, 1, 37] FF24 MM24 (d := 37) (s := 33) (x := 36) (Y := (bcells [(M + N) / 256 ^ i % 256])) (z := iB 0) (bb := 1) rfl rfl rfl rfl (lies_cn (MM24.get 0 rfl)) (bcells_one _) (by decide) Tryd.underlying67 (by kernel_rfl) rfl (by decide) (by simp only [maxLen]; omega) (by omega) rfl rfl (by decide) fun ac26 wd26 rv25 (FF26 : Fr 43 ac26 [(37, rv25), (6, iN ((carB M N i) + ((M / 256 ^ i % 256) + (N / 256 ^ i % 256)))), (7, iN i), (5, rv), (4, sB []), (0, sB (minB M)), (1, sB (minB N))]) (MM26 : MemS (fun k => k < w0.heap.size) w0 wd26 [(bq, .cells (cn .u8 ([(M + N) / 256 ^ i % 256])) 5)] [(rv25, 5, 1, (i + 1), ((bcells (leB i (M + N))) ++ (bcells [(M + N) / 256 ^ i % 256])))]) => ?_
        rw [bcells_app, ← leB_succ] at MM26
        refine rg_part 1 FF26 MM26 [o_] [6, 7, 5, 4, 0, 1] (fun Kt => Kt [(5, rv25), (6, iN ((carB M N i) + ((M / 256 ^ i % 256) + (N / 256 ^ i % 256)))), (7, iN i), (4, sB []), (0, sB (minB M)), (1, sB (minB N))] [(bq, .cells (cn .u8 ([(M + N) / 256 ^ i % 256])) 5)]) (by kernel_rfl) (fun _ => by kernel_rfl) (fun ac27 wd27 FF27 MM27 => ?_)
        refine wpl_nil (then_n ?_)
        refine rg_seq FF27 MM27 [o_, t_ (iN (carB M N (i + 1))), o_] [5, 6, 7, 4, 0, 1] (fun Kt => 8 ≤ 64 ∧ iN (((carB M N i) + ((M / 256 ^ i % 256) + (N / 256 ^ i % 256))) / 256) = iN (carB M N (i + 1)) ∧ Kt [(6, iN (carB M N (i + 1))), (5, rv25), (7, iN i), (4, sB []), (0, sB (minB M)), (1, sB (minB N))] [(bq, .cells (cn .u8 ([(M + N) / 256 ^ i % 256])) 5)]) (by kernel_rfl) (fun _ => by kernel_rfl) (⟨(by decide), (vI (car_step M N i)), fun ac28 wd28 FF28 MM28 => ?_⟩)
        refine inb_n (then_n ?_)
        refine rg_seq FF28 MM28 [o_, o_, o_] [6, 5, 7, 4, 0, 1] (fun Kt => i + 1 < 9223372036854775808 ∧ Kt [(7, iN (i + 1)), (6, iN (carB M N (i + 1))), (5, rv25), (4, sB []), (0, sB (minB M)), (1, sB (minB N))] [(bq, .cells (cn .u8 ([(M + N) / 256 ^ i % 256])) 5)]) (by kernel_rfl) (fun _ => by kernel_rfl) (⟨(by omega), fun ac29 wd29 FF29 MM29 => ?_⟩)
        have hd := cnt_of (FF29.get 0 rfl)
        refine then_n ⟨⟨rv25, i + 1, (by first | omega | (have := car_more h3; omega)), FF29.pick [0, 1, 2, 3, 4, 5], MM29.sub [] rfl⟩, ?_⟩
        rw [hc, hd]; first | omega | (have := car_more h3; omega)
      · skip
        refine rg_seq FF5 MM5 [o_, o_, t_ (iN (sz M)), w_ 3, o_, o_, o_, t_ (iN (sz N)), w_ 3, o_, o_, o_, w_ 3, o_] [7, 6, 5, 4, 0, 1, 21] (fun Kt => iN ((bs (minB M)).size) = iN (sz M) ∧ ¬ (i < (sz M)) ∧ iN ((bs (minB N)).size) = iN (sz N) ∧ ¬ (i < (sz N)) ∧ ¬ ((carB M N i) > 0) ∧ Kt [(21, .bool false), (7, iN i), (6, iN (carB M N i)), (5, rv), (4, sB []), (0, sB (minB M)), (1, sB (minB N))] []) (by kernel_rfl) (fun _ => by kernel_rfl) (⟨(vI ((bs_size _).trans (minB_len M))), (by omega), (vI ((bs_size _).trans (minB_len N))), (by omega), (by have := car_lt M N i; omega), fun ac30 wd30 FF30 MM30 => ?_⟩)
        refine then_n (.inr ⟨FF30.ev 0 rfl, ?_⟩)
        refine then_n ?_
        refine wp_seq (wp_region_list ?_)
        refine rg_part 1 FF30 MM30 [o_] [7, 6, 5, 4, 0, 1, 40] (fun Kt => Kt [(40, rv), (7, iN i), (6, iN (carB M N i)), (5, rv), (4, sB []), (0, sB (minB M)), (1, sB (minB N))] []) (by kernel_rfl) (fun _ => by kernel_rfl) (fun ac31 wd31 FF31 MM31 => ?_)
        refine st_strS [7, 6, 5, 4, 0, 1, 41] FF31 MM31 (leB_lt i (M + N)) (d := 41) (s := 40) rfl rfl Tryd.underlying67 Tryd.underlying5 Tryd.underlying9 rfl rfl (by decide) fun ac32 (FF32 : Fr 43 ac32 [(41, sB (leB i (M + N))), (7, iN i), (6, iN (carB M N i)), (5, rv), (4, sB []), (0, sB (minB M)), (1, sB (minB N))]) => ?_
        refine rg_part 2 FF32 MM31 [t_ (sB (minB (M + N))), o_] [7, 6, 5, 4, 0, 1] (fun Kt => CallP Tryd.prog 46 [sB (leB i (M + N))] [] (sB (minB (M + N))) ∧ Kt [(4, sB (minB (M + N))), (7, iN i), (6, iN (carB M N i)), (5, rv), (0, sB (minB M)), (1, sB (minB N))] []) (by kernel_rfl) (fun _ => by kernel_rfl) (⟨(by have h0 := callP_of en_rtrim (trim_any (leB i (M + N)) (leB_lt i (M + N)) (by rw [leB_len]; omega)) []; rw [add_val (add_end (by omega) (by omega) (by omega))] at h0; exact h0), fun ac33 wd33 FF33 MM33 => ?_⟩)
        refine wpl_nil (then_n ?_)
        refine wp_ret ?_
        repeat first | refine then_ret ?_ | refine inb_ret ?_
        exact (ret_fr FF33 0 Tryd.results40 rfl ⟨rfl, MM33.below⟩)
set_option maxRecDepth 100000 in
theorem cmp_any (M N : Nat) (hz : sz M + sz N < 1000000) (w0 : World) :
    Calls Tryd.prog 45 #[sB (minB M), sB (minB N)] w0 fun e w' => e = .returned (.int .i64 (cmpN M N)) ∧ Below w0.heap.size w0 w' := by
  refine enter_fr Tryd.func45 rfl Tryd.ntmps45 (by simp) fun ac (FF : Fr 37 ac [(0, sB (minB M)), (1, sB (minB N))]) => ?_
  have MM := MemS.start w0
  refine wp_seq (rg_seq FF MM [o_] [0, 1, 4] (fun Kt => Kt [(4, iN 0), (0, sB (minB M)), (1, sB (minB N))] []) (by kernel_rfl) (fun _ => by kernel_rfl) (fun ac1 wd1 FF1 MM1 => then_n ?_))
  refine wp_seq ?_
  refine wp_seq (rg_seq FF1 MM1 [o_, t_ (iN (sz M)), o_, t_ (iN (sz N)), o_] [4, 0, 1, 10] (fun Kt => iN ((bs (minB M)).size) = iN (sz M) ∧ iN ((bs (minB N)).size) = iN (sz N) ∧ Kt [(10, .bool (decide ((sz M) ≠ (sz N)))), (4, iN 0), (0, sB (minB M)), (1, sB (minB N))] []) (by kernel_rfl) (fun _ => by kernel_rfl) (⟨(vI ((bs_size _).trans (minB_len M))), (vI ((bs_size _).trans (minB_len N))), fun ac2 wd2 FF2 MM2 => then_n ?_⟩))
  by_cases hs10 : (sz M) ≠ (sz N)
  · refine wp_cond_true ((FF2.ev 0 rfl).trans (dec_t hs10)) ?_
    refine wp_seq ?_
    refine wp_seq (rg_seq FF2 MM2 [o_, t_ (iN (sz M)), o_, t_ (iN (sz N)), o_] [4, 0, 1, 15] (fun Kt => iN ((bs (minB M)).size) = iN (sz M) ∧ iN ((bs (minB N)).size) = iN (sz N) ∧ Kt [(15, .bool (decide ((sz M) < (sz N)))), (4, iN 0), (0, sB (minB M)), (1, sB (minB N))] []) (by kernel_rfl) (fun _ => by kernel_rfl) (⟨(vI ((bs_size _).trans (minB_len M))), (vI ((bs_size _).trans (minB_len N))), fun ac3 wd3 FF3 MM3 => then_n ?_⟩))
    by_cases hs15 : (sz M) < (sz N)
    · refine wp_cond_true ((FF3.ev 0 rfl).trans (dec_t hs15)) ?_
      have hM := cmp_len hs15
      refine wp_seq (rg_seq FF3 MM3 [o_] [4, 0, 1] (fun Kt => Kt [(4, .int .i64 (-1 : Int)), (0, sB (minB M)), (1, sB (minB N))] []) (by kernel_rfl) (fun _ => by kernel_rfl) (fun ac4 wd4 FF4 MM4 => then_n ?_))
      refine wp_ret ?_
      repeat first | refine then_ret ?_ | refine inb_ret ?_
      exact (ret_fr FF4 0 Tryd.results45 rfl ⟨congrArg (fun z => Ending.returned (Value.int .i64 z)) (cmpm hM), MM4.below⟩)
    · refine wp_cond_false ((FF3.ev 0 rfl).trans (dec_f hs15)) ?_
      have hM := cmp_len (show sz N < sz M by omega)
      refine wp_skip ?_
      refine then_n ?_
      refine wp_seq (rg_seq FF3 MM3 [o_] [4, 0, 1] (fun Kt => Kt [(4, iN 1), (0, sB (minB M)), (1, sB (minB N))] []) (by kernel_rfl) (fun _ => by kernel_rfl) (fun ac5 wd5 FF5 MM5 => then_n ?_))
      refine wp_ret ?_
      repeat first | refine then_ret ?_ | refine inb_ret ?_
      exact (ret_fr FF5 0 Tryd.results45 rfl ⟨congrArg (fun z => Ending.returned (Value.int .i64 z)) (cmp1 hM), MM5.below⟩)
  · refine wp_cond_false ((FF2.ev 0 rfl).trans (dec_f hs10)) ?_
    have hs : sz M = sz N := by omega
    refine wp_skip ?_
    refine then_n ?_
    refine wp_seq ?_
    refine wp_seq (rg_seq FF2 MM2 [o_, t_ (iN (sz M)), u_ 4 (.int .i64 (((sz M : Nat) : Int) - 1 : Int)), o_] [4, 0, 1, 5] (fun Kt => iN ((bs (minB M)).size) = iN (sz M) ∧ -(9223372036854775808 : Int) ≤ ((sz M : Nat) : Int) - ((1 : Nat) : Int) ∧ ((sz M : Nat) : Int) - ((1 : Nat) : Int) < (9223372036854775808 : Nat) ∧ Value.int .i64 (((sz M : Nat) : Int) - ((1 : Nat) : Int) : Int) = .int .i64 (((sz M : Nat) : Int) - 1 : Int) ∧ Kt [(5, .int .i64 (((sz M : Nat) : Int) - 1 : Int)), (4, iN 0), (0, sB (minB M)), (1, sB (minB N))] []) (by kernel_rfl) (fun _ => by kernel_rfl) (⟨(vI ((bs_size _).trans (minB_len M))), (by omega), (by omega), (vZ (by omega)), fun ac6 wd6 FF6 MM6 => then_n ?_⟩))
    refine wp_for2 (fun a' w' => ∃ j : Nat, j ≤ sz M ∧ M / 256 ^ j = N / 256 ^ j ∧ Fr 37 a' [(5, .int .i64 (((j : Nat) : Int) - 1 : Int)), (0, sB (minB M)), (1, sB (minB N))] ∧ MemS (fun k => k < w0.heap.size) w0 w' [] []) (fun a' _ => (cnt 5 a' + 1).toNat) ⟨sz M, Nat.le_refl _, cmp_top hs, FF6.pick [0, 2, 3], MM6⟩ ?_
    rintro ac7 wd7 ⟨j, hj, hq, FF7, MM7⟩
    have hc := cnt_of (FF7.get 0 rfl)
    refine rg_seq FF7 MM7 [o_, w_ 4] [5, 0, 1, 20] (fun Kt => Kt [(20, .bool (decide ((((j : Nat) : Int) - 1) ≥ ((0 : Nat) : Int)))), (5, .int .i64 (((j : Nat) : Int) - 1 : Int)), (0, sB (minB M)), (1, sB (minB N))] []) (by kernel_rfl) (fun _ => by kernel_rfl) (fun ac8 wd8 FF8 MM8 => ?_)
    by_cases hlt : (((j : Nat) : Int) - 1) ≥ ((0 : Nat) : Int)
    · skip
      refine then_n (.inl ⟨(FF8.ev 0 rfl).trans (dec_t hlt), ?_⟩)
      obtain ⟨j, rfl⟩ : ∃ z, j = z + 1 := ⟨j - 1, by omega⟩
      refine wp_seq (rg_draw FF8 MM8 [.inl (sB (minB M)), .inl (iN j), .inl (iB (M / 256 ^ j % 256)), .inl (sB (minB N)), .inl (iN j), .inl (iB (N / 256 ^ j % 256)), .inl (.bool (decide ((M / 256 ^ j % 256) ≠ (N / 256 ^ j % 256))))] [] [o_, t_ (iN j), t_ (iB (M / 256 ^ j % 256)), o_, t_ (iN j), t_ (iB (N / 256 ^ j % 256)), o_] [] [5, 0, 1, 29] (fun nb => [Value.int .i64 ((((j + 1) : Nat) : Int) - 1 : Int) = iN j, j < (bs (minB M)).size, (nl (bs (minB M))).getD j 0 = M / 256 ^ j % 256, Value.int .i64 ((((j + 1) : Nat) : Int) - 1 : Int) = iN j, j < (bs (minB N)).size, (nl (bs (minB N))).getD j 0 = N / 256 ^ j % 256]) (fun nb Kt => Kt [(29, .bool (decide ((M / 256 ^ j % 256) ≠ (N / 256 ^ j % 256)))), (5, .int .i64 ((((j + 1) : Nat) : Int) - 1 : Int)), (0, sB (minB M)), (1, sB (minB N))] []) (by kernel_rfl) (by kernel_rfl) (by kernel_rfl) (fun _ => by kernel_rfl) (fun _ _ => by kernel_rfl) trivial (fun nb => ⟨(vZ (by omega)), (by simp only [bs_size, minB_len]; omega), ((byte_bs (minB_lt M) _).trans (minB_get M _)), (vZ (by omega)), (by simp only [bs_size, minB_len]; omega), ((byte_bs (minB_lt N) _).trans (minB_get N _)), trivial⟩) (fun nb => fun ac9 wd9 FF9 MM9 => then_n ?_))
      by_cases hs29 : (M / 256 ^ j % 256) ≠ (N / 256 ^ j % 256)
      · refine wp_cond_true ((FF9.ev 0 rfl).trans (dec_t hs29)) ?_
        refine wp_seq ?_
        refine wp_seq (rg_draw FF9 MM9 [.inl (sB (minB M)), .inl (iN j), .inl (iB (M / 256 ^ j % 256)), .inl (sB (minB N)), .inl (iN j), .inl (iB (N / 256 ^ j % 256)), .inl (.bool (decide ((M / 256 ^ j % 256) < (N / 256 ^ j % 256))))] [] [o_, t_ (iN j), t_ (iB (M / 256 ^ j % 256)), o_, t_ (iN j), t_ (iB (N / 256 ^ j % 256)), o_] [] [5, 0, 1, 36] (fun nb => [Value.int .i64 ((((j + 1) : Nat) : Int) - 1 : Int) = iN j, j < (bs (minB M)).size, (nl (bs (minB M))).getD j 0 = M / 256 ^ j % 256, Value.int .i64 ((((j + 1) : Nat) : Int) - 1 : Int) = iN j, j < (bs (minB N)).size, (nl (bs (minB N))).getD j 0 = N / 256 ^ j % 256]) (fun nb Kt => Kt [(36, .bool (decide ((M / 256 ^ j % 256) < (N / 256 ^ j % 256)))), (5, .int .i64 ((((j + 1) : Nat) : Int) - 1 : Int)), (0, sB (minB M)), (1, sB (minB N))] []) (by kernel_rfl) (by kernel_rfl) (by kernel_rfl) (fun _ => by kernel_rfl) (fun _ _ => by kernel_rfl) trivial (fun nb => ⟨(vZ (by omega)), (by simp only [bs_size, minB_len]; omega), ((byte_bs (minB_lt M) _).trans (minB_get M _)), (vZ (by omega)), (by simp only [bs_size, minB_len]; omega), ((byte_bs (minB_lt N) _).trans (minB_get N _)), trivial⟩) (fun nb => fun ac10 wd10 FF10 MM10 => then_n ?_))
        by_cases hs36 : (M / 256 ^ j % 256) < (N / 256 ^ j % 256)
        · refine wp_cond_true ((FF10.ev 0 rfl).trans (dec_t hs36)) ?_
          have hM := cmp_lt hq hs36
          refine wp_seq (rg_seq FF10 MM10 [o_] [5, 0, 1, 4] (fun Kt => Kt [(4, .int .i64 (-1 : Int)), (5, .int .i64 ((((j + 1) : Nat) : Int) - 1 : Int)), (0, sB (minB M)), (1, sB (minB N))] []) (by kernel_rfl) (fun _ => by kernel_rfl) (fun ac11 wd11 FF11 MM11 => then_n ?_))
          refine wp_ret ?_
          repeat first | refine then_ret ?_ | refine inb_ret ?_
          exact (ret_fr FF11 0 Tryd.results45 rfl ⟨congrArg (fun z => Ending.returned (Value.int .i64 z)) (cmpm hM), MM11.below⟩)
        · refine wp_cond_false ((FF10.ev 0 rfl).trans (dec_f hs36)) ?_
          have hM := cmp_lt hq.symm (by omega)
          refine wp_skip ?_
          refine then_n ?_
          refine wp_seq (rg_seq FF10 MM10 [o_] [5, 0, 1, 4] (fun Kt => Kt [(4, iN 1), (5, .int .i64 ((((j + 1) : Nat) : Int) - 1 : Int)), (0, sB (minB M)), (1, sB (minB N))] []) (by kernel_rfl) (fun _ => by kernel_rfl) (fun ac12 wd12 FF12 MM12 => then_n ?_))
          refine wp_ret ?_
          repeat first | refine then_ret ?_ | refine inb_ret ?_
          exact (ret_fr FF12 0 Tryd.results45 rfl ⟨congrArg (fun z => Ending.returned (Value.int .i64 z)) (cmp1 hM), MM12.below⟩)
      · refine wp_cond_false ((FF9.ev 0 rfl).trans (dec_f hs29)) ?_
        have hq2 := cmp_eq hq (by omega)
        refine wp_skip ?_
        refine inb_n (then_n ?_)
        refine rg_seq FF9 MM9 [o_, u_ 4 (.int .i64 (((j : Nat) : Int) - 1 : Int)), o_] [5, 0, 1] (fun Kt => -(9223372036854775808 : Int) ≤ ((((j + 1) : Nat) : Int) - 1) - ((1 : Nat) : Int) ∧ ((((j + 1) : Nat) : Int) - 1) - ((1 : Nat) : Int) < (9223372036854775808 : Nat) ∧ Value.int .i64 (((((j + 1) : Nat) : Int) - 1) - ((1 : Nat) : Int) : Int) = .int .i64 (((j : Nat) : Int) - 1 : Int) ∧ Kt [(5, .int .i64 (((j : Nat) : Int) - 1 : Int)), (0, sB (minB M)), (1, sB (minB N))] []) (by kernel_rfl) (fun _ => by kernel_rfl) (⟨(by omega), (by omega), (vZ (by omega)), fun ac13 wd13 FF13 MM13 => ?_⟩)
        have hd := cnt_of (FF13.get 0 rfl)
        refine then_n ⟨⟨j, by omega, hq2, FF13.pick [0, 1, 2], MM13⟩, ?_⟩
        rw [hc, hd]; omega
    · skip
      refine then_n (.inr ⟨(FF8.ev 0 rfl).trans (dec_f hlt), ?_⟩)
      obtain rfl : j = 0 := by omega
      have hM : M = N := by simpa using hq
      refine then_n ?_
      refine wp_seq (rg_seq FF8 MM8 [o_] [5, 0, 1, 4] (fun Kt => Kt [(4, iN 0), (5, .int .i64 (((0 : Nat) : Int) - 1 : Int)), (0, sB (minB M)), (1, sB (minB N))] []) (by kernel_rfl) (fun _ => by kernel_rfl) (fun ac14 wd14 FF14 MM14 => then_n ?_))
      refine wp_ret ?_
      repeat first | refine then_ret ?_ | refine inb_ret ?_
      exact (ret_fr FF14 0 Tryd.results45 rfl ⟨congrArg (fun z => Ending.returned (Value.int .i64 z)) (cmp0 hM), MM14.below⟩)
end Go.Proofs.YtlljedijldkcbaaDoor
namespace Go.Proofs.YtlljedijldkcbaaDoor
open Go.RowKit
theorem bsz_half {x : Nat} (h : 0 < x) : bsz x = 1 + bsz (x / 2) := by
  rcases Nat.lt_or_ge x 2 with h2 | h2
  · obtain rfl : x = 1 := by omega
    rfl
  · exact bsz_div (k := 1) h2
theorem bits8_top {M : Nat} (h : ¬ sz M = 0) : 8 * (sz M - 1) + bsz (M / 256 ^ (sz M - 1) % 256) = bsz M := by
  have h2 := (sz_ok M).2.resolve_left h
  have e : 256 ^ (sz M - 1) = 2 ^ (8 * (sz M - 1)) := by rw [show 256 = 2 ^ 8 by rfl, ← Nat.pow_mul]
  have h1 := (sz_ok M).1
  have e2 : 256 ^ sz M = 256 ^ (sz M - 1) * 256 := by rw [← Nat.pow_succ]; congr 1; omega
  rw [bsz_div (k := 8 * (sz M - 1)) (x := M) (by rw [← e]; exact h2), ← e, Nat.mod_eq_of_lt (Nat.div_lt_of_lt_mul (by rw [← e2]; exact h1))]
theorem sz0 {M : Nat} (h : sz M = 0) : M = 0 := by have := (sz_ok M).1; rw [h] at this; simpa using this
theorem bsz_sz (M : Nat) : bsz M ≤ 8 * sz M := bsz_le (by have := (sz_ok M).1; rwa [show 256 = 2 ^ 8 by rfl, ← Nat.pow_mul] at this)
set_option maxRecDepth 100000 in
theorem bits8_any (N : Nat) (hz : sz N < 1000000) (w0 : World) :
    Calls Tryd.prog 63 #[sB (minB N)] w0 fun e w' => e = .returned (iN (bsz N)) ∧ Below w0.heap.size w0 w' := by
  refine enter_fr Tryd.func63 rfl Tryd.ntmps63 (by simp) fun ac (FF : Fr 24 ac [(0, sB (minB N))]) => ?_
  have MM := MemS.start w0
  refine wp_seq (rg_seq FF MM [o_] [0, 2] (fun Kt => Kt [(2, iN 0), (0, sB (minB N))] []) (by kernel_rfl) (fun _ => by kernel_rfl) (fun ac1 wd1 FF1 MM1 => then_n ?_))
  refine wp_seq ?_
  refine wp_seq (rg_seq FF1 MM1 [o_, t_ (iN (sz N)), o_] [2, 0, 7] (fun Kt => iN ((bs (minB N)).size) = iN (sz N) ∧ Kt [(7, .bool (decide ((sz N) = 0))), (2, iN 0), (0, sB (minB N))] []) (by kernel_rfl) (fun _ => by kernel_rfl) (⟨(vI ((bs_size _).trans (minB_len N))), fun ac2 wd2 FF2 MM2 => then_n ?_⟩))
  by_cases hs7 : (sz N) = 0
  · refine wp_cond_true ((FF2.ev 0 rfl).trans (dec_t hs7)) ?_
    refine wp_seq (rg_seq FF2 MM2 [o_] [2, 0] (fun Kt => Kt [(2, iN 0), (0, sB (minB N))] []) (by kernel_rfl) (fun _ => by kernel_rfl) (fun ac3 wd3 FF3 MM3 => then_n ?_))
    refine wp_ret ?_
    repeat first | refine then_ret ?_ | refine inb_ret ?_
    exact (ret_fr FF3 0 Tryd.results63 rfl ⟨congrArg (fun z : Nat => Ending.returned (Value.int .i64 (z : Int))) ((by rw [sz0 hs7]; rfl)), MM3.below⟩)
  · refine wp_cond_false ((FF2.ev 0 rfl).trans (dec_f hs7)) ?_
    have hb := bsz_sz N
    have ht : N / 256 ^ (sz N - 1) % 256 < 256 := Nat.mod_lt _ (by decide)
    refine wp_skip ?_
    refine then_n ?_
    refine wp_seq (rg_seq FF2 MM2 [o_, t_ (iN (sz N)), o_, o_, o_] [2, 0, 3] (fun Kt => iN ((bs (minB N)).size) = iN (sz N) ∧ 1 ≤ (sz N) ∧ (sz N) - 1 < 9223372036854775808 ∧ 8 * ((sz N) - 1) < 9223372036854775808 ∧ Kt [(3, iN (8 * ((sz N) - 1))), (2, iN 0), (0, sB (minB N))] []) (by kernel_rfl) (fun _ => by kernel_rfl) (⟨(vI ((bs_size _).trans (minB_len N))), (by omega), (by omega), (by omega), fun ac4 wd4 FF4 MM4 => then_n ?_⟩))
    refine wp_seq ?_
    refine wp_seq (rg_seq FF4 MM4 [o_, o_, t_ (iN (sz N)), o_, t_ (iB (N / 256 ^ (sz N - 1) % 256)), o_] [3, 2, 0, 4] (fun Kt => iN ((bs (minB N)).size) = iN (sz N) ∧ 1 ≤ (sz N) ∧ (sz N) - 1 < 9223372036854775808 ∧ ((sz N) - 1) < (bs (minB N)).size ∧ (nl (bs (minB N))).getD ((sz N) - 1) 0 = N / 256 ^ (sz N - 1) % 256 ∧ Kt [(4, iB (N / 256 ^ (sz N - 1) % 256)), (3, iN (8 * ((sz N) - 1))), (2, iN 0), (0, sB (minB N))] []) (by kernel_rfl) (fun _ => by kernel_rfl) (⟨(vI ((bs_size _).trans (minB_len N))), (by omega), (by omega), (by simp only [bs_size, minB_len]; omega), ((byte_bs (minB_lt N) _).trans (minB_get N _)), fun ac5 wd5 FF5 MM5 => then_n ?_⟩))
    refine wp_for2 (fun a' w' => ∃ x : Nat, ∃ c : Nat, x < 256 ∧ c + bsz x = bsz N ∧ Fr 24 a' [(4, iB x), (3, iN c), (2, iN 0), (0, sB (minB N))] ∧ MemS (fun k => k < w0.heap.size) w0 w' [] []) (fun a' _ => (cnt 4 a').toNat) ⟨N / 256 ^ (sz N - 1) % 256, 8 * (sz N - 1), ht, bits8_top hs7, FF5.pick [0, 1, 2, 3], MM5⟩ ?_
    rintro ac6 wd6 ⟨x, c, hx, hc, FF6, MM6⟩
    have hq := cnt_of (FF6.get 0 rfl)
    refine rg_seq FF6 MM6 [o_, o_] [4, 3, 2, 0, 18] (fun Kt => Kt [(18, .bool (decide (x > 0))), (4, iB x), (3, iN c), (2, iN 0), (0, sB (minB N))] []) (by kernel_rfl) (fun _ => by kernel_rfl) (fun ac7 wd7 FF7 MM7 => ?_)
    by_cases hlt : x > 0
    · skip
      refine then_n (.inl ⟨(FF7.ev 0 rfl).trans (dec_t hlt), ?_⟩)
      refine rg_seq FF7 MM7 [o_, o_, o_] [4, 3, 2, 0] (fun Kt => c + 1 < 9223372036854775808 ∧ Kt [(3, iN (c + 1)), (4, iB x), (2, iN 0), (0, sB (minB N))] []) (by kernel_rfl) (fun _ => by kernel_rfl) (⟨(by omega), fun ac8 wd8 FF8 MM8 => ?_⟩)
      refine inb_n (then_n ?_)
      refine rg_seq FF8 MM8 [o_, o_, o_] [3, 4, 2, 0] (fun Kt => 1 ≤ 8 ∧ Kt [(4, iB (x / 2)), (3, iN (c + 1)), (2, iN 0), (0, sB (minB N))] []) (by kernel_rfl) (fun _ => by kernel_rfl) (⟨(by decide), fun ac9 wd9 FF9 MM9 => ?_⟩)
      have hd := cnt_of (FF9.get 0 rfl)
      refine then_n ⟨⟨x / 2, c + 1, by omega, by rw [bsz_half hlt] at hc; omega, FF9.pick [0, 1, 2, 3], MM9⟩, ?_⟩
      rw [hq, hd]; omega
    · skip
      refine then_n (.inr ⟨(FF7.ev 0 rfl).trans (dec_f hlt), ?_⟩)
      have he : c = bsz N := by rw [show x = 0 by omega] at hc; exact hc
      refine then_n ?_
      refine wp_seq (rg_seq FF7 MM7 [o_, o_] [4, 3, 2, 0] (fun Kt => Kt [(2, iN c), (4, iB x), (3, iN c), (0, sB (minB N))] []) (by kernel_rfl) (fun _ => by kernel_rfl) (fun ac10 wd10 FF10 MM10 => then_n ?_))
      refine wp_ret ?_
      repeat first | refine then_ret ?_ | refine inb_ret ?_
      exact (ret_fr FF10 0 Tryd.results63 rfl ⟨congrArg (fun z : Nat => Ending.returned (Value.int .i64 (z : Int))) (he), MM10.below⟩)
end Go.Proofs.YtlljedijldkcbaaDoor
