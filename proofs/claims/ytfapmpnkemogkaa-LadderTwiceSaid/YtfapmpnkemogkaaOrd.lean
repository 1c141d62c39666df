/- The order of the base point, 2^252 + 27742317777372353535851937790883648493, is prime. -/
import Derived.Test.YtfapmpnkemogkaaPrime
namespace Go.Proofs.Ytfapmpnkemogkaa
set_option linter.unusedVariables false
theorem prime_11 : IsPrime 11 := prime_small 4 (by decide +kernel)
theorem prime_23 : IsPrime 23 := prime_small 5 (by decide +kernel)
theorem prime_409477 : IsPrime 409477 := prime_small 640 (by decide +kernel)
theorem prime_14741173 : IsPrime 14741173 := prime_lucas 2 [2, 2, 3, 3, 409477] (by
  intro q hq
  simp only [List.mem_cons, List.not_mem_nil, or_false] at hq
  rcases hq with rfl | rfl | rfl | rfl | rfl
  · exact prime_two
  · exact prime_two
  · exact prime_three
  · exact prime_three
  · exact prime_409477) (by decide +kernel)
theorem prime_58964693 : IsPrime 58964693 := prime_lucas 2 [2, 2, 14741173] (by
  intro q hq
  simp only [List.mem_cons, List.not_mem_nil, or_false] at hq
  rcases hq with rfl | rfl | rfl
  · exact prime_two
  · exact prime_two
  · exact prime_14741173) (by decide +kernel)
theorem prime_30703 : IsPrime 30703 := prime_small 176 (by decide +kernel)
theorem prime_82163 : IsPrime 82163 := prime_small 287 (by decide +kernel)
theorem prime_132667 : IsPrime 132667 := prime_small 365 (by decide +kernel)
theorem prime_137849 : IsPrime 137849 := prime_small 372 (by decide +kernel)
theorem prime_3044861653679985063343 : IsPrime 3044861653679985063343 := prime_lucas 5 [2, 3, 11, 30703, 82163, 132667, 137849] (by
  intro q hq
  simp only [List.mem_cons, List.not_mem_nil, or_false] at hq
  rcases hq with rfl | rfl | rfl | rfl | rfl | rfl | rfl
  · exact prime_two
  · exact prime_three
  · exact prime_11
  · exact prime_30703
  · exact prime_82163
  · exact prime_132667
  · exact prime_137849) (by decide +kernel)
theorem prime_198211423230930754013084525763697 : IsPrime 198211423230930754013084525763697 := prime_lucas 5 [2, 2, 2, 2, 3, 23, 58964693, 3044861653679985063343] (by
  intro q hq
  simp only [List.mem_cons, List.not_mem_nil, or_false] at hq
  rcases hq with rfl | rfl | rfl | rfl | rfl | rfl | rfl | rfl
  · exact prime_two
  · exact prime_two
  · exact prime_two
  · exact prime_two
  · exact prime_three
  · exact prime_23
  · exact prime_58964693
  · exact prime_3044861653679985063343) (by decide +kernel)
theorem prime_269 : IsPrime 269 := prime_small 17 (by decide +kernel)
theorem prime_73 : IsPrime 73 := prime_small 9 (by decide +kernel)
theorem prime_307 : IsPrime 307 := prime_small 18 (by decide +kernel)
theorem prime_5879 : IsPrime 5879 := prime_small 77 (by decide +kernel)
theorem prime_292386187 : IsPrime 292386187 := prime_lucas 2 [2, 3, 3, 3, 3, 307, 5879] (by
  intro q hq
  simp only [List.mem_cons, List.not_mem_nil, or_false] at hq
  rcases hq with rfl | rfl | rfl | rfl | rfl | rfl | rfl
  · exact prime_two
  · exact prime_three
  · exact prime_three
  · exact prime_three
  · exact prime_three
  · exact prime_307
  · exact prime_5879) (by decide +kernel)
theorem prime_213441916511 : IsPrime 213441916511 := prime_lucas 13 [2, 5, 73, 292386187] (by
  intro q hq
  simp only [List.mem_cons, List.not_mem_nil, or_false] at hq
  rcases hq with rfl | rfl | rfl | rfl
  · exact prime_two
  · exact prime_5
  · exact prime_73
  · exact prime_292386187) (by decide +kernel)
theorem prime_1361 : IsPrime 1361 := prime_small 37 (by decide +kernel)
theorem prime_2851 : IsPrime 2851 := prime_small 54 (by decide +kernel)
theorem prime_41 : IsPrime 41 := prime_small 7 (by decide +kernel)
theorem prime_43 : IsPrime 43 := prime_small 7 (by decide +kernel)
theorem prime_531581 : IsPrime 531581 := prime_small 730 (by decide +kernel)
theorem prime_1224481 : IsPrime 1224481 := prime_small 1107 (by decide +kernel)
theorem prime_1257559732178653 : IsPrime 1257559732178653 := prime_lucas 2 [2, 2, 3, 7, 23, 531581, 1224481] (by
  intro q hq
  simp only [List.mem_cons, List.not_mem_nil, or_false] at hq
  rcases hq with rfl | rfl | rfl | rfl | rfl | rfl | rfl
  · exact prime_two
  · exact prime_two
  · exact prime_three
  · exact prime_7
  · exact prime_23
  · exact prime_531581
  · exact prime_1224481) (by decide +kernel)
theorem prime_4434155615661930479 : IsPrime 4434155615661930479 := prime_lucas 17 [2, 41, 43, 1257559732178653] (by
  intro q hq
  simp only [List.mem_cons, List.not_mem_nil, or_false] at hq
  rcases hq with rfl | rfl | rfl | rfl
  · exact prime_two
  · exact prime_41
  · exact prime_43
  · exact prime_1257559732178653) (by decide +kernel)
theorem prime_172054593956031949258510691 : IsPrime 172054593956031949258510691 := prime_lucas 2 [2, 5, 1361, 2851, 4434155615661930479] (by
  intro q hq
  simp only [List.mem_cons, List.not_mem_nil, or_false] at hq
  rcases hq with rfl | rfl | rfl | rfl | rfl
  · exact prime_two
  · exact prime_5
  · exact prime_1361
  · exact prime_2851
  · exact prime_4434155615661930479) (by decide +kernel)
theorem prime_19757330305831588566944191468367130476339 : IsPrime 19757330305831588566944191468367130476339 := prime_lucas 2 [2, 269, 213441916511, 172054593956031949258510691] (by
  intro q hq
  simp only [List.mem_cons, List.not_mem_nil, or_false] at hq
  rcases hq with rfl | rfl | rfl | rfl
  · exact prime_two
  · exact prime_269
  · exact prime_213441916511
  · exact prime_172054593956031949258510691) (by decide +kernel)
theorem prime_276602624281642239937218680557139826668747 : IsPrime 276602624281642239937218680557139826668747 := prime_lucas 2 [2, 7, 19757330305831588566944191468367130476339] (by
  intro q hq
  simp only [List.mem_cons, List.not_mem_nil, or_false] at hq
  rcases hq with rfl | rfl | rfl
  · exact prime_two
  · exact prime_7
  · exact prime_19757330305831588566944191468367130476339) (by decide +kernel)
theorem prime_7237005577332262213973186563042994240857116359379907606001950938285454250989 : IsPrime 7237005577332262213973186563042994240857116359379907606001950938285454250989 := prime_lucas 2 [2, 2, 3, 11, 198211423230930754013084525763697, 276602624281642239937218680557139826668747] (by
  intro q hq
  simp only [List.mem_cons, List.not_mem_nil, or_false] at hq
  rcases hq with rfl | rfl | rfl | rfl | rfl | rfl
  · exact prime_two
  · exact prime_two
  · exact prime_three
  · exact prime_11
  · exact prime_198211423230930754013084525763697
  · exact prime_276602624281642239937218680557139826668747) (by decide +kernel)
end Go.Proofs.Ytfapmpnkemogkaa
