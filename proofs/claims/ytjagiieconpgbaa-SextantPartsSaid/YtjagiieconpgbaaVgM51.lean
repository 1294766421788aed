import Derived.Test.YtjagiieconpgbaaVgR21
import Derived.Test.YtjagiieconpgbaaVgK5
namespace Go.Proofs.Ytjagiieconpgbaa
open Go Go.Vg
set_option maxRecDepth 100000
set_option maxHeartbeats 4000000
def e0 : Nat × List SV × SV := (93, [(.agg [(ki 36000), (.rd 2 3 (rowOf 2 [kz, kz, (ki (-10)), (ki 10), (ki 20), (ki 40)])), (ki (-30)), (ki (-20)), (ki 5), (.rd 2 2 (rowOf 2 [kz, (ki 6), (ki (-4)), (ki 4)]))])], (.rd 1 3 (rowOf 1 [(.ifc 157 (.agg [(ki (-5)), (ki 5)])), (.ifc 161 (.agg [kz, kz, (ki 6)])), (.ifc 161 (.agg [(ki 1), (ki (-4)), (ki 4)]))])))
theorem kn0 : KnOk Try.prog [] := trivial
theorem mm0 : okT (withK [] tab.get) 1000 e0.1 e0.2.1 e0.2.2 = true := by kernel_rfl
theorem pp0 : PureOk Try.prog e0.1 (fun bs K => bs = e0.2.1 ∧ K e0.2.2) := pure_of_okT (withK_ok (AllTT.tab tabOk) kn0) mm0
def e1 : Nat × List SV × SV := (15, [(.agg [(ki 36000), (.rd 2 3 (rowOf 2 [kz, kz, (ki (-10)), (ki 10), (ki 20), (ki 40)])), (ki (-30)), (ki (-20)), (ki 5), (.rd 2 2 (rowOf 2 [kz, (ki 6), (ki (-4)), (ki 4)]))]), (.agg [(ki 54000), (ki 1)])], (.tup [(.agg [(ki 53970), (ki 54016)]), kz]))
theorem kn1 : KnOk Try.prog [e0] := ⟨pp0, trivial⟩
theorem mm1 : okT (withK [e0] tab.get) 1000 e1.1 e1.2.1 e1.2.2 = true := by kernel_rfl
theorem pp1 : PureOk Try.prog e1.1 (fun bs K => bs = e1.2.1 ∧ K e1.2.2) := pure_of_okT (withK_ok (AllTT.tab tabOk) kn1) mm1
def e2 : Nat × List SV × SV := (67, [(.agg [(ki 36000), (.rd 2 3 (rowOf 2 [kz, kz, (ki (-10)), (ki 10), (ki 20), (ki 40)])), (ki (-30)), (ki (-20)), (ki 5), (.rd 2 2 (rowOf 2 [kz, (ki 6), (ki (-4)), (ki 4)]))]), (.agg [(ki 1880), (ki 1900)]), (.rd 2 2 (rowOf 2 [(ki 1915), (ki 1865), (ki 1912), (ki 1862)]))], (.tup [(.agg [(ki (-28)), (ki (-22))]), (.agg [(ki 1885), (ki 1892)])]))
theorem kn2 : KnOk Try.prog [] := trivial
theorem mm2 : okT (withK [] tab.get) 1000 e2.1 e2.2.1 e2.2.2 = true := by kernel_rfl
theorem pp2 : PureOk Try.prog e2.1 (fun bs K => bs = e2.2.1 ∧ K e2.2.2) := pure_of_okT (withK_ok (AllTT.tab tabOk) kn2) mm2
def e3 : Nat × List SV × SV := (71, [(.agg [(ki 36000), (.rd 2 3 (rowOf 2 [kz, kz, (ki (-10)), (ki 10), (ki 20), (ki 40)])), (ki (-30)), (ki (-20)), (ki 5), (.rd 2 2 (rowOf 2 [kz, (ki 6), (ki (-4)), (ki 4)]))]), (.agg [kb0, kb1, kb1, kb0, kb0, kb0, kb0, kb0, kb0, kb0, kb0, kb0, (.cm [(ki 1), (ki 2)] [(.agg [(ki (-20)), (ki (-10))]), (.agg [(ki 5), (ki 15)])])])], (.tup [(.rd 2 3 (rowOf 2 [kz, kz, kz, (ki 10), (ki 25), (ki 40)])), (.agg [(ki (-30)), (ki (-20))])]))
theorem kn3 : KnOk Try.prog [] := trivial
theorem mm3 : okT (withK [] tab.get) 1000 e3.1 e3.2.1 e3.2.2 = true := by kernel_rfl
theorem pp3 : PureOk Try.prog e3.1 (fun bs K => bs = e3.2.1 ∧ K e3.2.2) := pure_of_okT (withK_ok (AllTT.tab tabOk) kn3) mm3
def e4 : Nat × List SV × SV := (24, [(.agg [(ki 36000), (.rd 2 3 (rowOf 2 [kz, kz, (ki (-10)), (ki 10), (ki 20), (ki 40)])), (ki (-30)), (ki (-20)), (ki 5), (.rd 2 2 (rowOf 2 [kz, (ki 6), (ki (-4)), (ki 4)]))]), (.rd 3 2 (rowOf 3 [(ki 36000), kz, (ki 35985), (ki 72000), kz, (ki 72010)]))], (.tup [(.rd 2 3 (rowOf 2 [kz, kz, kz, (ki 10), (ki 25), (ki 40)])), (.agg [(ki (-30)), (ki (-20))]), kz]))
theorem kn4 : KnOk Try.prog [e0, e3] := ⟨pp0, pp3, trivial⟩
theorem mm4 : okT (withK [e0, e3] tab.get) 1000 e4.1 e4.2.1 e4.2.2 = true := by kernel_rfl
theorem pp4 : PureOk Try.prog e4.1 (fun bs K => bs = e4.2.1 ∧ K e4.2.2) := pure_of_okT (withK_ok (AllTT.tab tabOk) kn4) mm4
def e5 : Nat × List SV × SV := (70, [(.agg [(ki 36000), (.rd 2 3 (rowOf 2 [kz, kz, (ki (-10)), (ki 10), (ki 20), (ki 40)])), (ki (-30)), (ki (-20)), (ki 5), (.rd 2 2 (rowOf 2 [kz, (ki 6), (ki (-4)), (ki 4)]))]), (.rd 3 3 (rowOf 3 [(ki 36000), kz, (ki 35985), (ki 72000), kz, (ki 72010), (ki 36000), kz, (ki 35960)]))], kz)
theorem kn5 : KnOk Try.prog [] := trivial
theorem mm5 : okT (withK [] tab.get) 1000 e5.1 e5.2.1 e5.2.2 = true := by kernel_rfl
theorem pp5 : PureOk Try.prog e5.1 (fun bs K => bs = e5.2.1 ∧ K e5.2.2) := pure_of_okT (withK_ok (AllTT.tab tabOk) kn5) mm5
def e6 : Nat × List SV × SV := (71, [(.agg [(ki 36000), (.rd 2 3 (rowOf 2 [kz, kz, (ki (-10)), (ki 10), (ki 20), (ki 40)])), (ki (-30)), (ki (-20)), (ki 5), (.rd 2 2 (rowOf 2 [kz, (ki 6), (ki (-4)), (ki 4)]))]), (.agg [kb0, kb1, kb1, kb0, kb0, kb0, kb0, kb0, kb0, kb0, kb0, kb0, (.cm [(ki 1), (ki 2)] [(.agg [(ki 1), kz]), (.agg [(ki 5), (ki 15)])])])], (.tup [(.rd 2 3 (rowOf 2 [(ki 1), kz, (ki 1), kz, (ki 1), kz])), (.agg [(ki 1), kz])]))
theorem kn6 : KnOk Try.prog [] := trivial
theorem mm6 : okT (withK [] tab.get) 1000 e6.1 e6.2.1 e6.2.2 = true := by kernel_rfl
theorem pp6 : PureOk Try.prog e6.1 (fun bs K => bs = e6.2.1 ∧ K e6.2.2) := pure_of_okT (withK_ok (AllTT.tab tabOk) kn6) mm6
def e7 : Nat × List SV × SV := (75, [(.agg [(ki 36000), (.rd 2 3 (rowOf 2 [kz, kz, (ki (-10)), (ki 10), (ki 20), (ki 40)])), (ki (-30)), (ki (-20)), (ki 5), (.rd 2 2 (rowOf 2 [kz, (ki 6), (ki (-4)), (ki 4)]))]), (.rd 3 3 (rowOf 3 [(ki 36000), kz, (ki 35985), (ki 72000), kz, (ki 72010), (ki 36000), kz, (ki 35960)]))], kb0)
theorem kn7 : KnOk Try.prog [e0, e6] := ⟨pp0, pp6, trivial⟩
theorem mm7 : okT (withK [e0, e6] tab.get) 1000 e7.1 e7.2.1 e7.2.2 = true := by kernel_rfl
theorem pp7 : PureOk Try.prog e7.1 (fun bs K => bs = e7.2.1 ∧ K e7.2.2) := pure_of_okT (withK_ok (AllTT.tab tabOk) kn7) mm7
def e8 : Nat × List SV × SV := (71, [(.agg [(ki 36000), (.rd 2 3 (rowOf 2 [kz, kz, (ki (-10)), (ki 10), (ki 20), (ki 40)])), (ki (-30)), (ki (-20)), (ki 5), (.rd 2 2 (rowOf 2 [kz, (ki 6), (ki (-4)), (ki 4)]))]), (.agg [kb0, kb1, kb0, kb0, kb0, kb0, kb0, kb0, kb0, kb0, kb0, kb0, (.cm [(ki 1)] [(.agg [(ki (-20)), (ki (-10))])])])], (.tup [(.rd 2 3 (rowOf 2 [kz, kz, kz, (ki 10), (ki 20), (ki 40)])), (.agg [(ki (-30)), (ki (-20))])]))
theorem kn8 : KnOk Try.prog [] := trivial
theorem mm8 : okT (withK [] tab.get) 1000 e8.1 e8.2.1 e8.2.2 = true := by kernel_rfl
theorem pp8 : PureOk Try.prog e8.1 (fun bs K => bs = e8.2.1 ∧ K e8.2.2) := pure_of_okT (withK_ok (AllTT.tab tabOk) kn8) mm8
def e9 : Nat × List SV × SV := (71, [(.agg [(ki 36000), (.rd 2 3 (rowOf 2 [kz, kz, (ki (-10)), (ki 10), (ki 20), (ki 40)])), (ki (-30)), (ki (-20)), (ki 5), (.rd 2 2 (rowOf 2 [kz, (ki 6), (ki (-4)), (ki 4)]))]), (.agg [kb0, kb0, kb1, kb0, kb0, kb0, kb0, kb0, kb0, kb0, kb0, kb0, (.cm [(ki 2)] [(.agg [(ki 5), (ki 15)])])])], (.tup [(.rd 2 3 (rowOf 2 [kz, kz, (ki (-10)), (ki 10), (ki 25), (ki 40)])), (.agg [(ki (-30)), (ki (-20))])]))
theorem kn9 : KnOk Try.prog [] := trivial
theorem mm9 : okT (withK [] tab.get) 1000 e9.1 e9.2.1 e9.2.2 = true := by kernel_rfl
theorem pp9 : PureOk Try.prog e9.1 (fun bs K => bs = e9.2.1 ∧ K e9.2.2) := pure_of_okT (withK_ok (AllTT.tab tabOk) kn9) mm9
def e10 : Nat × List SV × SV := (71, [(.agg [(ki 36000), (.rd 2 3 (rowOf 2 [kz, kz, (ki (-10)), (ki 10), (ki 20), (ki 40)])), (ki (-30)), (ki (-20)), (ki 5), (.rd 2 2 (rowOf 2 [kz, (ki 6), (ki (-4)), (ki 4)]))]), (.agg [kb0, kb1, kb0, kb0, kb0, kb0, kb0, kb0, kb0, kb0, kb0, kb0, (.cm [(ki 1)] [(.agg [(ki (-45)), (ki (-35))])])])], (.tup [(.rd 2 3 (rowOf 2 [kz, kz, (ki (-10)), (ki (-5)), (ki 20), (ki 40)])), (.agg [(ki (-30)), (ki (-25))])]))
theorem kn10 : KnOk Try.prog [] := trivial
theorem mm10 : okT (withK [] tab.get) 1000 e10.1 e10.2.1 e10.2.2 = true := by kernel_rfl
theorem pp10 : PureOk Try.prog e10.1 (fun bs K => bs = e10.2.1 ∧ K e10.2.2) := pure_of_okT (withK_ok (AllTT.tab tabOk) kn10) mm10
def e11 : Nat × List SV × SV := (75, [(.agg [(ki 36000), (.rd 2 3 (rowOf 2 [kz, kz, (ki (-10)), (ki 10), (ki 20), (ki 40)])), (ki (-30)), (ki (-20)), (ki 5), (.rd 2 2 (rowOf 2 [kz, (ki 6), (ki (-4)), (ki 4)]))]), (.rd 3 2 (rowOf 3 [(ki 36000), kz, (ki 35985), (ki 72000), kz, (ki 72010)]))], kb1)
theorem kn11 : KnOk Try.prog [e0, e3] := ⟨pp0, pp3, trivial⟩
theorem mm11 : okT (withK [e0, e3] tab.get) 1000 e11.1 e11.2.1 e11.2.2 = true := by kernel_rfl
theorem pp11 : PureOk Try.prog e11.1 (fun bs K => bs = e11.2.1 ∧ K e11.2.2) := pure_of_okT (withK_ok (AllTT.tab tabOk) kn11) mm11
def e12 : Nat × List SV × SV := (71, [(.agg [(ki 36000), (.rd 2 3 (rowOf 2 [kz, kz, (ki (-10)), (ki 10), (ki 20), (ki 40)])), (ki (-30)), (ki (-20)), (ki 5), (.rd 2 2 (rowOf 2 [kz, (ki 6), (ki (-4)), (ki 4)]))]), (.agg [kb0, kb1, kb0, kb0, kb0, kb0, kb0, kb0, kb0, kb0, kb0, kb0, (.cm [(ki 1)] [(.agg [(ki 1), kz])])])], (.tup [(.rd 2 3 (rowOf 2 [(ki 1), kz, (ki 1), kz, (ki 1), kz])), (.agg [(ki 1), kz])]))
theorem kn12 : KnOk Try.prog [] := trivial
theorem mm12 : okT (withK [] tab.get) 1000 e12.1 e12.2.1 e12.2.2 = true := by kernel_rfl
theorem pp12 : PureOk Try.prog e12.1 (fun bs K => bs = e12.2.1 ∧ K e12.2.2) := pure_of_okT (withK_ok (AllTT.tab tabOk) kn12) mm12
def e13 : Nat × List SV × SV := (75, [(.agg [(ki 36000), (.rd 2 3 (rowOf 2 [kz, kz, (ki (-10)), (ki 10), (ki 20), (ki 40)])), (ki (-30)), (ki (-20)), (ki 5), (.rd 2 2 (rowOf 2 [kz, (ki 6), (ki (-4)), (ki 4)]))]), (.rd 3 2 (rowOf 3 [(ki 36000), kz, (ki 35985), (ki 36000), kz, (ki 35960)]))], kb0)
theorem kn13 : KnOk Try.prog [e0, e12] := ⟨pp0, pp12, trivial⟩
theorem mm13 : okT (withK [e0, e12] tab.get) 1000 e13.1 e13.2.1 e13.2.2 = true := by kernel_rfl
theorem pp13 : PureOk Try.prog e13.1 (fun bs K => bs = e13.2.1 ∧ K e13.2.2) := pure_of_okT (withK_ok (AllTT.tab tabOk) kn13) mm13
def e14 : Nat × List SV × SV := (76, [(.agg [(ki 36000), (.rd 2 3 (rowOf 2 [kz, kz, (ki (-10)), (ki 10), (ki 20), (ki 40)])), (ki (-30)), (ki (-20)), (ki 5), (.rd 2 2 (rowOf 2 [kz, (ki 6), (ki (-4)), (ki 4)]))]), (.rd 3 3 (rowOf 3 [(ki 36000), kz, (ki 35985), (ki 72000), kz, (ki 72010), (ki 36000), kz, (ki 35960)]))], (.ints .i64 [0, 2]))
theorem kn14 : KnOk Try.prog [e0, e8, e9, e10, e11, e13] := ⟨pp0, pp8, pp9, pp10, pp11, pp13, trivial⟩
theorem mm14 : okT (withK [e0, e8, e9, e10, e11, e13] tab.get) 1000 e14.1 e14.2.1 e14.2.2 = true := by kernel_rfl
theorem pp14 : PureOk Try.prog e14.1 (fun bs K => bs = e14.2.1 ∧ K e14.2.2) := pure_of_okT (withK_ok (AllTT.tab tabOk) kn14) mm14
def e15 : Nat × List SV × SV := (63, [(.agg [(ki 36000), (.rd 2 3 (rowOf 2 [kz, kz, (ki (-10)), (ki 10), (ki 20), (ki 40)])), (ki (-30)), (ki (-20)), (ki 5), (.rd 2 2 (rowOf 2 [kz, (ki 6), (ki (-4)), (ki 4)]))])], (ki 54))
theorem kn15 : KnOk Try.prog [e0] := ⟨pp0, trivial⟩
theorem mm15 : okT (withK [e0] tab.get) 1000 e15.1 e15.2.1 e15.2.2 = true := by kernel_rfl
theorem pp15 : PureOk Try.prog e15.1 (fun bs K => bs = e15.2.1 ∧ K e15.2.2) := pure_of_okT (withK_ok (AllTT.tab tabOk) kn15) mm15
def e16 : Nat × List SV × SV := (21, [], kb1)
theorem kn16 : KnOk Try.prog [e1, e2, e4, e5, e7, e14, e15] := ⟨pp1, pp2, pp4, pp5, pp7, pp14, pp15, trivial⟩
theorem mm16 : okT (withK [e1, e2, e4, e5, e7, e14, e15] tab.get) 1000 21 [] kb1 = true := by kernel_rfl
theorem pp16 : PureOk Try.prog 21 (fun bs K => bs = [] ∧ K kb1) := pure_of_okT (withK_ok (AllTT.tab tabOk) kn16) mm16
end Go.Proofs.Ytjagiieconpgbaa
