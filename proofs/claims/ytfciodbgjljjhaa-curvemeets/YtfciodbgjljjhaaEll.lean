/- The order of the base point is a prime. -/
import Derived.Test.YtfciodbgjljjhaaPrime
namespace Go.Proofs.Ytfciodbgjljjhaa

theorem prime11 : IsP 11 := isP_small 11 4 (by decide) (by decide) (by decide +kernel)
theorem prime73 : IsP 73 := isP_small 73 9 (by decide) (by decide) (by decide +kernel)
theorem prime269 : IsP 269 := isP_small 269 17 (by decide) (by decide) (by decide +kernel)
theorem prime307 : IsP 307 := isP_small 307 18 (by decide) (by decide) (by decide +kernel)
theorem prime1361 : IsP 1361 := isP_small 1361 37 (by decide) (by decide) (by decide +kernel)
theorem prime2851 : IsP 2851 := isP_small 2851 54 (by decide) (by decide) (by decide +kernel)
theorem prime5879 : IsP 5879 := isP_small 5879 77 (by decide) (by decide) (by decide +kernel)
theorem prime30703 : IsP 30703 := isP_small 30703 176 (by decide) (by decide) (by decide +kernel)
theorem prime82163 : IsP 82163 := isP_small 82163 287 (by decide) (by decide) (by decide +kernel)
theorem prime132667 : IsP 132667 := isP_small 132667 365 (by decide) (by decide) (by decide +kernel)
theorem prime137849 : IsP 137849 := isP_small 137849 372 (by decide) (by decide) (by decide +kernel)
theorem prime409477 : IsP 409477 := isP_small 409477 640 (by decide) (by decide) (by decide +kernel)
theorem prime531581 : IsP 531581 := isP_small 531581 730 (by decide) (by decide) (by decide +kernel)
theorem prime1224481 : IsP 1224481 := isP_small 1224481 1107 (by decide) (by decide) (by decide +kernel)
theorem prime14741173 : IsP 14741173 :=
  (lucas_pm 14741173 2 25 (by decide +kernel) (by decide +kernel) [(2, 2), (3, 2), (409477, 1)] (by decide +kernel) (fun x hx => by
    simp only [List.mem_cons, List.not_mem_nil, or_false] at hx
    rcases hx with rfl | rfl | rfl
    all_goals first | exact prime2 | exact prime3 | exact prime409477) (by decide +kernel) (by decide +kernel)).1
theorem prime58964693 : IsP 58964693 :=
  (lucas_pm 58964693 2 27 (by decide +kernel) (by decide +kernel) [(2, 2), (14741173, 1)] (by decide +kernel) (fun x hx => by
    simp only [List.mem_cons, List.not_mem_nil, or_false] at hx
    rcases hx with rfl | rfl
    all_goals first | exact prime2 | exact prime14741173) (by decide +kernel) (by decide +kernel)).1
theorem prime3044861653679985063343 : IsP 3044861653679985063343 :=
  (lucas_pm 3044861653679985063343 5 73 (by decide +kernel) (by decide +kernel) [(2, 1), (3, 1), (11, 1), (30703, 1), (82163, 1), (132667, 1), (137849, 1)] (by decide +kernel) (fun x hx => by
    simp only [List.mem_cons, List.not_mem_nil, or_false] at hx
    rcases hx with rfl | rfl | rfl | rfl | rfl | rfl | rfl
    all_goals first | exact prime2 | exact prime3 | exact prime11 | exact prime30703 | exact prime82163 | exact prime132667 | exact prime137849) (by decide +kernel) (by decide +kernel)).1
theorem prime198211423230930754013084525763697 : IsP 198211423230930754013084525763697 :=
  (lucas_pm 198211423230930754013084525763697 5 109 (by decide +kernel) (by decide +kernel) [(2, 4), (3, 1), (23, 1), (58964693, 1), (3044861653679985063343, 1)] (by decide +kernel) (fun x hx => by
    simp only [List.mem_cons, List.not_mem_nil, or_false] at hx
    rcases hx with rfl | rfl | rfl | rfl | rfl
    all_goals first | exact prime2 | exact prime3 | exact prime23 | exact prime58964693 | exact prime3044861653679985063343) (by decide +kernel) (by decide +kernel)).1
theorem prime292386187 : IsP 292386187 :=
  (lucas_pm 292386187 2 30 (by decide +kernel) (by decide +kernel) [(2, 1), (3, 4), (307, 1), (5879, 1)] (by decide +kernel) (fun x hx => by
    simp only [List.mem_cons, List.not_mem_nil, or_false] at hx
    rcases hx with rfl | rfl | rfl | rfl
    all_goals first | exact prime2 | exact prime3 | exact prime307 | exact prime5879) (by decide +kernel) (by decide +kernel)).1
theorem prime213441916511 : IsP 213441916511 :=
  (lucas_pm 213441916511 13 39 (by decide +kernel) (by decide +kernel) [(2, 1), (5, 1), (73, 1), (292386187, 1)] (by decide +kernel) (fun x hx => by
    simp only [List.mem_cons, List.not_mem_nil, or_false] at hx
    rcases hx with rfl | rfl | rfl | rfl
    all_goals first | exact prime2 | exact prime5 | exact prime73 | exact prime292386187) (by decide +kernel) (by decide +kernel)).1
theorem prime1257559732178653 : IsP 1257559732178653 :=
  (lucas_pm 1257559732178653 2 52 (by decide +kernel) (by decide +kernel) [(2, 2), (3, 1), (7, 1), (23, 1), (531581, 1), (1224481, 1)] (by decide +kernel) (fun x hx => by
    simp only [List.mem_cons, List.not_mem_nil, or_false] at hx
    rcases hx with rfl | rfl | rfl | rfl | rfl | rfl
    all_goals first | exact prime2 | exact prime3 | exact prime7 | exact prime23 | exact prime531581 | exact prime1224481) (by decide +kernel) (by decide +kernel)).1
theorem prime4434155615661930479 : IsP 4434155615661930479 :=
  (lucas_pm 4434155615661930479 17 63 (by decide +kernel) (by decide +kernel) [(2, 1), (41, 1), (43, 1), (1257559732178653, 1)] (by decide +kernel) (fun x hx => by
    simp only [List.mem_cons, List.not_mem_nil, or_false] at hx
    rcases hx with rfl | rfl | rfl | rfl
    all_goals first | exact prime2 | exact prime41 | exact prime43 | exact prime1257559732178653) (by decide +kernel) (by decide +kernel)).1
theorem prime172054593956031949258510691 : IsP 172054593956031949258510691 :=
  (lucas_pm 172054593956031949258510691 2 89 (by decide +kernel) (by decide +kernel) [(2, 1), (5, 1), (1361, 1), (2851, 1), (4434155615661930479, 1)] (by decide +kernel) (fun x hx => by
    simp only [List.mem_cons, List.not_mem_nil, or_false] at hx
    rcases hx with rfl | rfl | rfl | rfl | rfl
    all_goals first | exact prime2 | exact prime5 | exact prime1361 | exact prime2851 | exact prime4434155615661930479) (by decide +kernel) (by decide +kernel)).1
theorem prime19757330305831588566944191468367130476339 : IsP 19757330305831588566944191468367130476339 :=
  (lucas_pm 19757330305831588566944191468367130476339 2 135 (by decide +kernel) (by decide +kernel) [(2, 1), (269, 1), (213441916511, 1), (172054593956031949258510691, 1)] (by decide +kernel) (fun x hx => by
    simp only [List.mem_cons, List.not_mem_nil, or_false] at hx
    rcases hx with rfl | rfl | rfl | rfl
    all_goals first | exact prime2 | exact prime269 | exact prime213441916511 | exact prime172054593956031949258510691) (by decide +kernel) (by decide +kernel)).1
theorem prime276602624281642239937218680557139826668747 : IsP 276602624281642239937218680557139826668747 :=
  (lucas_pm 276602624281642239937218680557139826668747 2 139 (by decide +kernel) (by decide +kernel) [(2, 1), (7, 1), (19757330305831588566944191468367130476339, 1)] (by decide +kernel) (fun x hx => by
    simp only [List.mem_cons, List.not_mem_nil, or_false] at hx
    rcases hx with rfl | rfl | rfl
    all_goals first | exact prime2 | exact prime7 | exact prime19757330305831588566944191468367130476339) (by decide +kernel) (by decide +kernel)).1
theorem prime7237005577332262213973186563042994240857116359379907606001950938285454250989 : IsP 7237005577332262213973186563042994240857116359379907606001950938285454250989 :=
  (lucas_pm 7237005577332262213973186563042994240857116359379907606001950938285454250989 2 254 (by decide +kernel) (by decide +kernel) [(2, 2), (3, 1), (11, 1), (198211423230930754013084525763697, 1), (276602624281642239937218680557139826668747, 1)] (by decide +kernel) (fun x hx => by
    simp only [List.mem_cons, List.not_mem_nil, or_false] at hx
    rcases hx with rfl | rfl | rfl | rfl | rfl
    all_goals first | exact prime2 | exact prime3 | exact prime11 | exact prime198211423230930754013084525763697 | exact prime276602624281642239937218680557139826668747) (by decide +kernel) (by decide +kernel)).1
/-- The order of the base point. -/
def ellN : Nat := 7237005577332262213973186563042994240857116359379907606001950938285454250989
theorem ell_prime : IsP ellN := prime7237005577332262213973186563042994240857116359379907606001950938285454250989
end Go.Proofs.Ytfciodbgjljjhaa
