/- What strings.Builder's own text does: a pointer held against nil and against itself, turned to unsafe.Pointer and back; a row's bytes as a string. -/
import Derived.Test.YtkpindnekaijfaaDoorEvJ
import Derived.Laws.Externs
namespace Go.Proofs.YtkpindnekaijfaaDoor
open Go.RowKit
section
variable {P : Program} {l : Slots} {L : Blks} {o : Oper} {x y : Operand}
theorem ptrNil_ok {t t' e : TypeId} (ho : o.op = .binOp .eql t x y t') (hx : evO l x = some (.pointer none)) (hy : evO l y = some (.pointer none)) (hu : P.underlying t = some (.pointer e)) : RunV P l L o (.bool true) := fun ρ w A _ => by
  have h : ∀ d : Nat, (Op.equalIn (d + 1) t (.pointer none) (.pointer none)).run P w = .ok true w := fun d => by simp [Op.equalIn, run_underlying hu]
  have h2 := h 9999
  have h3 := A x _ hx
  have h4 := A y _ hy
  simp [execOp, ho, h3, h4, eqGuard, binOp, Op.equal, Op.maxDepth, h2]
theorem ptrSome_ok {t t' e : TypeId} {ad : Addr} (ho : o.op = .binOp .eql t x y t') (hx : evO l x = some (.pointer (some ad))) (hy : evO l y = some (.pointer none)) (hu : P.underlying t = some (.pointer e)) : RunV P l L o (.bool false) := fun ρ w A _ => by
  have h : ∀ d : Nat, (Op.equalIn (d + 1) t (.pointer (some ad)) (.pointer none)).run P w = .ok false w := fun d => by simp [Op.equalIn, run_underlying hu]
  have h2 := h 9999
  have h3 := A x _ hx
  have h4 := A y _ hy
  simp [execOp, ho, h3, h4, eqGuard, binOp, Op.equal, Op.maxDepth, h2]
theorem ptrSame_ok {t t' e : TypeId} {ad : Addr} (ho : o.op = .binOp .neq t x y t') (hx : evO l x = some (.pointer (some ad))) (hy : evO l y = some (.pointer (some ad))) (hu : P.underlying t = some (.pointer e)) (he : (P.info? e).isSome = true) : RunV P l L o (.bool false) := fun ρ w A _ => by
  obtain ⟨j, hj⟩ := Option.isSome_iff_exists.1 he
  have h2 := Lib.run_neq_ptr_same (P := P) w ad hu hj
  have h3 := A x _ hx
  have h4 := A y _ hy
  simp [execOp, ho, h3, h4, eqGuard, h2]
theorem toUnsafe_ok {src dst t : TypeId} {b i : Nat} {cs : Array Value} {T : TypeId} {fr : Nat × Nat} (ho : o.op = .convert src dst x) (hx : evO l x = some (.pointer (some ⟨b, 0, none⟩))) (hs : P.underlying src = some (.pointer t)) (hd : P.underlying dst = some .unsafePointer)
    (ht : (match P.info? t with | some j => !(Nat.beq j.size 0) | none => false) = true) (hL : L[i]? = some (b, .cells cs T fr)) (hc : 0 < cs.size) : RunV P l L o (.pointer (some ⟨b, 0, none⟩)) := fun ρ w A H => by
  have hb := H i _ hL
  cases hj : P.info? t with
  | none => rw [hj] at ht; cases ht
  | some j =>
    rw [hj] at ht
    have hne : j.size ≠ 0 := fun e => by simp [e] at ht
    have hr := Lib.run_to_unsafe (P := P) w ⟨b, 0, none⟩ hs hd hj hne (e := T) (cells := cs.size) (by simp [World.shape?, hb]) hc
    simp [execOp, ho, A x _ hx, hr]
theorem fromUnsafe_ok {src dst u : TypeId} {b i : Nat} {cs : Array Value} {T : TypeId} {fr : Nat × Nat} (ho : o.op = .convert src dst x) (hx : evO l x = some (.pointer (some ⟨b, 0, none⟩))) (hs : P.underlying src = some .unsafePointer) (hd : P.underlying dst = some (.pointer u))
    (hu : (P.info? u).isSome = true) (hL : L[i]? = some (b, .cells cs T fr)) (hl : liesAt P P.depth T (cs.size / P.cellsOf T) 0 u 1 = true) : RunV P l L o (.pointer (some ⟨b, 0, none⟩)) := fun ρ w A H => by
  have hb := H i _ hL
  obtain ⟨j, hj⟩ := Option.isSome_iff_exists.1 hu
  have hr := Lib.run_from_unsafe (P := P) w ⟨b, 0, none⟩ hs hd hj (e := T) (cells := cs.size) (by simp [World.shape?, hb]) hl
  simp [execOp, ho, A x _ hx, hr]
theorem noEsc_ok {f : FuncId} {fn : Func} {ts : Array TypeId} {v : Value} (ho : o.op = .call ⟨.value (.func f), #[x], ts⟩) (hx : evO l x = some v) (hf : P.funcs[f]? = some fn) (hname : (fn.name == "runtime.NumGoroutine") = false) (hb : fn.body.isNone = true) (hn : Extern.findNext fn = none)
    (he : Extern.find fn = some Extern.AbiNoEscape.same) : RunV P l L o v := fun ρ w A _ => by
  have h1 := A x _ hx
  have h3 : ρ (.func f) = .func (.func f) #[] #[] := A (.func f) _ rfl
  have h4 : (callFunc f #[v]).run P w = .ok (.value v) w := by rw [run_callFunc_extern hf hname hb hn he, Lib.run_noEscape]; rfl
  simp [execOp, ho, resolve, h1, h3, Deferred.ofValue, invoke, h4]
theorem sdNil_ok {t : TypeId} {n c : Nat} (ho : o.op = .call ⟨.builtin .unsafeSliceData, #[x], #[t]⟩) (hx : evO l x = some (.slice none n c)) : RunV P l L o (.pointer none) := fun ρ w A _ => by
  have h1 := A x _ hx
  have h2 := Lib.run_unsafeSliceData_nil (P := P) w #[t] o.type n c
  simp [execOp, ho, resolve, invoke, builtin, h1, h2]
theorem sdRow_ok {t : TypeId} {ad : Addr} {n c : Nat} (ho : o.op = .call ⟨.builtin .unsafeSliceData, #[x], #[t]⟩) (hx : evO l x = some (.slice (some ad) n c)) (hc : c ≠ 0) : RunV P l L o (.pointer (some ad)) := fun ρ w A _ => by
  have h1 := A x _ hx
  have h2 := Lib.run_unsafeSliceData_row (P := P) w #[t] o.type ad n c hc
  simp [execOp, ho, resolve, invoke, builtin, h1, h2]
theorem usNil_ok {t u : TypeId} {p : Option Addr} (ho : o.op = .call ⟨.builtin .unsafeString, #[x, y], #[t, u]⟩) (hx : evO l x = some (.pointer p)) (hy : evO l y = some (.int .i64 (0 : Nat))) : RunV P l L o (.string (bs [])) := fun ρ w A _ => by
  have h1 := A x _ hx
  have h1' := A y _ hy
  have h2 := Lib.run_unsafeString_none (P := P) w t u o.type p
  have e : ((0 : Nat) : Int) = 0 := rfl
  rw [e] at h1'
  simp only [execOp, ho, resolve, invoke, builtin, h1, h1', h2, Sem.run_bind, Sem.run_pure, Result.andThen_ok, List.map_toArray, List.map_cons, List.map_nil]
  rfl
/-- 'unsafe.String' over a row's head: the bytes are copied, the row is frozen so far. -/
theorem usRow_ok {t u e : TypeId} {g i : Nat} {cs : Array Value} {X : List Nat} (ho : o.op = .call ⟨.builtin .unsafeString, #[x, y], #[t, u]⟩) (hx : evO l x = some (.pointer (some ⟨g, 0, none⟩))) (hy : evO l y = some (.int .i64 (X.length : Nat)))
    (ht : P.underlying t = some (.pointer e)) (hc : P.cellsOf e = 1) (hL : L[i]? = some (g, .cells cs e)) (h0 : 0 < X.length) (hX : ∀ i, X.getD i 0 < 256) (hn : X.length ≤ cs.size) (h63 : X.length ≤ 9223372036854775807) (hcs : ∀ j, j < X.length → cs[j]? = some (.int .u8 (X.getD j 0 : Nat))) :
    RunU P l L o (.string (bs X)) [(i, .cells cs e (0, X.length))] := fun ρ w A H => by
  have h1 := A x _ hx
  have h1' := A y _ hy
  have hb := H i _ hL
  have hbl : (bs X).data.toList.length = X.length := by rw [Array.length_toList]; exact bs_size X
  have hr := Lib.run_unsafeString_row (P := P) w t u o.type e ht hc g cs.size (by simp [World.shape?, hb]) (bs X).data.toList (by intro h; rw [h] at hbl; simp at hbl; omega) (by rw [hbl]; exact hn) (by rw [hbl]; exact h63) (fun j z hz => by
    have hj : j < X.length := by rw [← hbl]; exact (List.getElem?_eq_some_iff.1 hz).1
    have e1 : (⟨g, 0, none⟩ : Addr).add j = ⟨g, j, none⟩ := by unfold Addr.add; split <;> simp_all
    rw [e1, Lib.cell_of_heap hb, hcs j hj]
    have e2 := byte_bs hX j
    simp only [nl] at e2
    have e3 : z.toNat = X.getD j 0 := by
      rw [← e2]
      simp [hz]
    rw [e3])
  rw [hbl] at hr
  refine ⟨w.freeze ⟨g, 0, none⟩ X.length, ?_, ?_⟩
  · simp only [execOp, ho, resolve, invoke, builtin, h1, h1', hr, Sem.run_bind, Sem.run_pure, Result.andThen_ok, List.map_toArray, List.map_cons, List.map_nil]
  · have hne : X.length ≠ 0 := by omega
    unfold World.freeze
    rw [if_neg hne]
    refine ⟨rfl, rfl, rfl, by simp, fun k hk hu => ?_, fun o h => (nomatch h), fun _ => rfl, fun u hu z hz => ?_⟩
    · simp only [Array.getElem?_modify]
      rw [if_neg]
      intro e
      exact hu _ (List.mem_singleton.2 rfl) _ hL e
    · obtain rfl := List.mem_singleton.1 hu
      simp only at hz
      obtain rfl := Option.some.inj (hL.symm.trans hz)
      simp [Array.getElem?_modify, hb]
end
end Go.Proofs.YtkpindnekaijfaaDoor
