import Derived.Test.YtlegfejimphfbaaGreatVgR21
import Derived.Test.YtlegfejimphfbaaGreatVgKB
import Derived.Test.YtlegfejimphfbaaGreatVgHX
section
namespace Go.Proofs.YtlegfejimphfbaaGreat
open Go Go.Vg
set_option maxRecDepth 100000
set_option maxHeartbeats 4000000
def e0 : Nat × List SV × SV := (14, [(.agg [(.ints .i64 [10, 20, 30]), (.rd 2 3 (rowOf 2 [(ki 500), (ki 600), (ki 200), (ki 300), (ki 800), (ki 900)])), kz, (ki 10), (ki (-1000)), (ki 1000)]), (ki 15), (ki 10)], (.tup [(.agg [(ki 350), (ki 550)]), kz]))
theorem pp0 : PureOk Tryz.prog e0.1 (fun bs K => bs = e0.2.1 ∧ K e0.2.2) := sp14
def e1 : Nat × List SV × SV := (18, [(.agg [(.ints .i64 [10, 20, 30]), (.rd 2 3 (rowOf 2 [(ki 500), (ki 600), (ki 200), (ki 300), (ki 800), (ki 900)])), kz, (ki 10), (ki (-1000)), (ki 1000)]), (.rd 2 2 (rowOf 2 [(ki 10), (ki 20), (ki 15), (ki 25)]))], (.tup [(.rd 2 2 (rowOf 2 [(ki (-800)), (ki 1600), (ki (-600)), (ki 2210)])), kz]))
theorem pp1 : PureOk Tryz.prog e1.1 (fun bs K => bs = e1.2.1 ∧ K e1.2.2) := sp18
def e2 : Nat × List SV × SV := (22, [(.agg [(.ints .i64 [10, 20, 30]), (.rd 2 3 (rowOf 2 [(ki 500), (ki 600), (ki 200), (ki 300), (ki 800), (ki 900)])), kz, (ki 10), (ki (-1000)), (ki 1000)]), (.rd 2 2 (rowOf 2 [(ki 10), (ki 20), (ki 15), (ki 25)])), (.agg [(.ints .i64 [550, 250, 850]), (ki 5), (ki 100), (.ints .i64 [20, 25])])], (.tup [(.ints .i64 [350, 905]), kz]))
theorem pp2 : PureOk Tryz.prog e2.1 (fun bs K => bs = e2.2.1 ∧ K e2.2.2) := sp22
def e3 : Nat × List SV × SV := (64, [(.rd 2 3 (rowOf 2 [(.lit (.string ⟨#[97, 114, 110, 111, 108, 100]⟩)), (.ints .i64 [10, 12, 11, 15]), (.lit (.string ⟨#[101, 97, 114, 110, 115, 104, 97, 119]⟩)), (.ints .i64 [20, 21, 23, 22]), (.lit (.string ⟨#[107, 101, 110, 100, 97, 108, 108]⟩)), (.ints .i64 [0, 0, 3, 1])]))], kb1)
theorem kn3 : KnOk Tryz.prog [] := trivial
theorem mm3 : okT (withK [] tab.get) 1000 e3.1 e3.2.1 e3.2.2 = true := by kernel_rfl
theorem pp3 : PureOk Tryz.prog e3.1 (fun bs K => bs = e3.2.1 ∧ K e3.2.2) := pure_of_okT (withK_ok (AllTT.tab tabOk) kn3) mm3
def e4 : Nat × List SV × SV := (90, [(.agg [(.lit (.string ⟨#[97, 114, 110, 111, 108, 100]⟩)), (.ints .i64 [10, 12, 11, 15])]), kz], (.agg [(.lit (.string ⟨#[97, 114, 110, 111, 108, 100]⟩)), (.ints .i64 [10, 12, 11, 15]), kz, (ki 13)]))
theorem kn4 : KnOk Tryz.prog [] := trivial
theorem mm4 : okT (withK [] tab.get) 1000 e4.1 e4.2.1 e4.2.2 = true := by kernel_rfl
theorem pp4 : PureOk Tryz.prog e4.1 (fun bs K => bs = e4.2.1 ∧ K e4.2.2) := pure_of_okT (withK_ok (AllTT.tab tabOk) kn4) mm4
def e5 : Nat × List SV × SV := (90, [(.agg [(.lit (.string ⟨#[101, 97, 114, 110, 115, 104, 97, 119]⟩)), (.ints .i64 [20, 21, 23, 22])]), (ki 1)], (.agg [(.lit (.string ⟨#[101, 97, 114, 110, 115, 104, 97, 119]⟩)), (.ints .i64 [20, 21, 23, 22]), (ki 1), (ki 7)]))
theorem kn5 : KnOk Tryz.prog [] := trivial
theorem mm5 : okT (withK [] tab.get) 1000 e5.1 e5.2.1 e5.2.2 = true := by kernel_rfl
theorem pp5 : PureOk Tryz.prog e5.1 (fun bs K => bs = e5.2.1 ∧ K e5.2.2) := pure_of_okT (withK_ok (AllTT.tab tabOk) kn5) mm5
def e6 : Nat × List SV × SV := (90, [(.agg [(.lit (.string ⟨#[107, 101, 110, 100, 97, 108, 108]⟩)), (.ints .i64 [0, 0, 3, 1])]), (ki 2)], (.agg [(.lit (.string ⟨#[107, 101, 110, 100, 97, 108, 108]⟩)), (.ints .i64 [0, 0, 3, 1]), (ki 2), (ki 9)]))
theorem kn6 : KnOk Tryz.prog [] := trivial
theorem mm6 : okT (withK [] tab.get) 1000 e6.1 e6.2.1 e6.2.2 = true := by kernel_rfl
theorem pp6 : PureOk Tryz.prog e6.1 (fun bs K => bs = e6.2.1 ∧ K e6.2.2) := pure_of_okT (withK_ok (AllTT.tab tabOk) kn6) mm6
def e7 : Nat × List SV × SV := (65, [(.rd 2 3 (rowOf 2 [(.lit (.string ⟨#[97, 114, 110, 111, 108, 100]⟩)), (.ints .i64 [10, 12, 11, 15]), (.lit (.string ⟨#[101, 97, 114, 110, 115, 104, 97, 119]⟩)), (.ints .i64 [20, 21, 23, 22]), (.lit (.string ⟨#[107, 101, 110, 100, 97, 108, 108]⟩)), (.ints .i64 [0, 0, 3, 1])]))], (.tup [(.ints .i64 [1, 2, 0]), (.ints .i64 [13, 7, 9])]))
theorem kn7 : KnOk Tryz.prog [e4, e5, e6] := ⟨pp4, pp5, pp6, trivial⟩
theorem mm7 : okT (withK [e4, e5, e6] tab.get) 1000 e7.1 e7.2.1 e7.2.2 = true := by kernel_rfl
theorem pp7 : PureOk Tryz.prog e7.1 (fun bs K => bs = e7.2.1 ∧ K e7.2.2) := pure_of_okT (withK_ok (AllTT.tab tabOk) kn7) mm7
def e8 : Nat × List SV × SV := (116, [(.agg [(.ints .i64 [0, 2, 4, 30]), (.ints .i64 [0, 1, 0, 1]), (ki 1), (ki (-5)), (ki 5), (ki (-5)), (ki 5), (ki (-5)), (ki 5)]), kz], (.rd 4 17 (rowOf 4 [kz, (ki 1), (ki (-1)), (ki 1), (ki 1), (ki 2), (ki (-1)), (ki 1), (ki 3), (ki 4), (ki 1), (ki 3), (ki 4), (ki 5), kz, (ki 2), (ki 6), (ki 7), (ki 3), (ki 5), (ki 7), (ki 8), (ki (-1)), (ki 1), (ki 9), (ki 10), (ki 29), (ki 31), (ki 10), (ki 11), kz, (ki 2), (ki 3), kz, (ki (-5)), (ki 5), (ki 6), (ki 3), (ki (-5)), (ki 5), (ki 9), (ki 6), (ki (-5)), (ki 5), (ki 4), (ki 1), (ki (-5)), (ki 5), (ki 7), (ki 4), (ki (-5)), (ki 5), (ki 10), (ki 7), (ki (-5)), (ki 5), (ki 5), (ki 2), (ki (-5)), (ki 5), (ki 8), (ki 5), (ki (-5)), (ki 5), (ki 11), (ki 8), (ki (-5)), (ki 5)])))
theorem kn8 : KnOk Tryz.prog [] := trivial
theorem mm8 : okT (withK [] tab.get) 1000 e8.1 e8.2.1 e8.2.2 = true := by kernel_rfl
theorem pp8 : PureOk Tryz.prog e8.1 (fun bs K => bs = e8.2.1 ∧ K e8.2.2) := pure_of_okT (withK_ok (AllTT.tab tabOk) kn8) mm8
end Go.Proofs.YtlegfejimphfbaaGreat
end
section
namespace Go.Proofs.YtlegfejimphfbaaGreat
open Go Go.Vg
set_option maxRecDepth 100000
set_option maxHeartbeats 4000000
def e10 : Nat × List SV × SV := (116, [(.agg [(.ints .i64 [0, 2, 4, 30]), (.ints .i64 [0, 1, 0, 1]), (ki 1), (ki (-5)), (ki 5), (ki (-5)), (ki 5), (ki (-5)), (ki 5)]), (ki 1)], (.rd 4 14 (rowOf 4 [kz, (ki 1), (ki (-1)), (ki 1), (ki 1), (ki 2), (ki (-1)), (ki 1), (ki 3), (ki 4), (ki 1), (ki 3), (ki 4), (ki 5), kz, (ki 2), (ki 6), (ki 7), (ki 3), (ki 5), (ki 7), (ki 8), (ki (-1)), (ki 1), (ki 9), (ki 10), (ki 29), (ki 31), (ki 10), (ki 11), kz, (ki 2), (ki 4), (ki 1), (ki (-5)), (ki 5), (ki 7), (ki 4), (ki (-5)), (ki 5), (ki 10), (ki 7), (ki (-5)), (ki 5), (ki 5), (ki 2), (ki (-5)), (ki 5), (ki 8), (ki 5), (ki (-5)), (ki 5), (ki 11), (ki 8), (ki (-5)), (ki 5)])))
theorem kn10 : KnOk Tryz.prog [] := trivial
theorem mm10 : okT (withK [] tab.get) 1000 e10.1 e10.2.1 e10.2.2 = true := by kernel_rfl
theorem pp10 : PureOk Tryz.prog e10.1 (fun bs K => bs = e10.2.1 ∧ K e10.2.2) := pure_of_okT (withK_ok (AllTT.tab tabOk) kn10) mm10
def e11 : Nat × List SV × SV := (97, [(.agg [(.ints .i64 [0, 2, 4, 30]), (.ints .i64 [0, 1, 0, 1]), (ki 1), (ki (-5)), (ki 5), (ki (-5)), (ki 5), (ki (-5)), (ki 5)]), (ki 1)], kb1)
theorem kn11 : KnOk Tryz.prog [e10] := ⟨pp10, trivial⟩
theorem mm11 : okT (withK [e10] tab.get) 1000 e11.1 e11.2.1 e11.2.2 = true := by kernel_rfl
theorem pp11 : PureOk Tryz.prog e11.1 (fun bs K => bs = e11.2.1 ∧ K e11.2.2) := pure_of_okT (withK_ok (AllTT.tab tabOk) kn11) mm11
def e12 : Nat × List SV × SV := (116, [(.agg [(.ints .i64 [0, 2, 4, 30]), (.ints .i64 [0, 1, 0, 1]), (ki 1), (ki (-5)), (ki 5), (ki (-5)), (ki 5), (ki (-5)), (ki 5)]), (ki 2)], (.rd 4 14 (rowOf 4 [kz, (ki 1), (ki (-1)), (ki 1), (ki 1), (ki 2), (ki (-1)), (ki 1), (ki 3), (ki 4), (ki 1), (ki 3), (ki 4), (ki 5), kz, (ki 2), (ki 6), (ki 7), (ki 3), (ki 5), (ki 7), (ki 8), (ki (-1)), (ki 1), (ki 9), (ki 10), (ki 29), (ki 31), (ki 10), (ki 11), kz, (ki 2), (ki 3), kz, (ki (-5)), (ki 5), (ki 6), (ki 3), (ki (-5)), (ki 5), (ki 9), (ki 6), (ki (-5)), (ki 5), (ki 5), (ki 2), (ki (-5)), (ki 5), (ki 8), (ki 5), (ki (-5)), (ki 5), (ki 11), (ki 8), (ki (-5)), (ki 5)])))
theorem kn12 : KnOk Tryz.prog [] := trivial
theorem mm12 : okT (withK [] tab.get) 1000 e12.1 e12.2.1 e12.2.2 = true := by kernel_rfl
theorem pp12 : PureOk Tryz.prog e12.1 (fun bs K => bs = e12.2.1 ∧ K e12.2.2) := pure_of_okT (withK_ok (AllTT.tab tabOk) kn12) mm12
end Go.Proofs.YtlegfejimphfbaaGreat
end
section
namespace Go.Proofs.YtlegfejimphfbaaGreat
open Go Go.Vg
set_option maxRecDepth 100000
set_option maxHeartbeats 4000000
def e14 : Nat × List SV × SV := (116, [(.agg [(.ints .i64 [0, 2, 4, 30]), (.ints .i64 [0, 1, 0, 1]), (ki 1), (ki (-5)), (ki 5), (ki (-5)), (ki 5), (ki (-5)), (ki 5)]), (ki 4)], (.rd 4 14 (rowOf 4 [kz, (ki 1), (ki (-1)), (ki 1), (ki 1), (ki 2), (ki (-1)), (ki 1), (ki 3), (ki 4), (ki 1), (ki 3), (ki 4), (ki 5), kz, (ki 2), (ki 6), (ki 7), (ki 3), (ki 5), (ki 7), (ki 8), (ki (-1)), (ki 1), (ki 9), (ki 10), (ki 29), (ki 31), (ki 10), (ki 11), kz, (ki 2), (ki 3), kz, (ki (-5)), (ki 5), (ki 6), (ki 3), (ki (-5)), (ki 5), (ki 9), (ki 6), (ki (-5)), (ki 5), (ki 4), (ki 1), (ki (-5)), (ki 5), (ki 7), (ki 4), (ki (-5)), (ki 5), (ki 10), (ki 7), (ki (-5)), (ki 5)])))
theorem kn14 : KnOk Tryz.prog [] := trivial
theorem mm14 : okT (withK [] tab.get) 1000 e14.1 e14.2.1 e14.2.2 = true := by kernel_rfl
theorem pp14 : PureOk Tryz.prog e14.1 (fun bs K => bs = e14.2.1 ∧ K e14.2.2) := pure_of_okT (withK_ok (AllTT.tab tabOk) kn14) mm14
end Go.Proofs.YtlegfejimphfbaaGreat
end
section
namespace Go.Proofs.YtlegfejimphfbaaGreat
open Go Go.Vg
set_option maxRecDepth 100000
set_option maxHeartbeats 4000000
def e19 : Nat × List SV × SV := (116, [(.agg [(.ints .i64 [0, 2, 4, 30]), (.ints .i64 [0, 1, 0, -26]), (ki 1), (ki (-5)), (ki 5), (ki (-5)), (ki 5), (ki (-5)), (ki 5)]), (ki 1)], (.rd 4 14 (rowOf 4 [kz, (ki 1), (ki (-1)), (ki 1), (ki 1), (ki 2), (ki (-1)), (ki 1), (ki 3), (ki 4), (ki 1), (ki 3), (ki 4), (ki 5), kz, (ki 2), (ki 6), (ki 7), (ki 3), (ki 5), (ki 7), (ki 8), (ki (-1)), (ki 1), (ki 9), (ki 10), (ki 29), (ki 31), (ki 10), (ki 11), (ki (-27)), (ki (-25)), (ki 4), (ki 1), (ki (-5)), (ki 5), (ki 7), (ki 4), (ki (-5)), (ki 5), (ki 10), (ki 7), (ki (-5)), (ki 5), (ki 5), (ki 2), (ki (-5)), (ki 5), (ki 8), (ki 5), (ki (-5)), (ki 5), (ki 11), (ki 8), (ki (-5)), (ki 5)])))
theorem kn19 : KnOk Tryz.prog [] := trivial
theorem mm19 : okT (withK [] tab.get) 1000 e19.1 e19.2.1 e19.2.2 = true := by kernel_rfl
theorem pp19 : PureOk Tryz.prog e19.1 (fun bs K => bs = e19.2.1 ∧ K e19.2.2) := pure_of_okT (withK_ok (AllTT.tab tabOk) kn19) mm19
end Go.Proofs.YtlegfejimphfbaaGreat
end
section
namespace Go.Proofs.YtlegfejimphfbaaGreat
open Go Go.Vg
set_option maxRecDepth 100000
set_option maxHeartbeats 4000000
def e21 : Nat × List SV × SV := (116, [(.agg [(.ints .i64 [0, 2, 4, 30]), (.ints .i64 [0, 1, 0, -26]), (ki 1), (ki (-5)), (ki 5), (ki (-5)), (ki 5), (ki (-5)), (ki 5)]), (ki 2)], (.rd 4 14 (rowOf 4 [kz, (ki 1), (ki (-1)), (ki 1), (ki 1), (ki 2), (ki (-1)), (ki 1), (ki 3), (ki 4), (ki 1), (ki 3), (ki 4), (ki 5), kz, (ki 2), (ki 6), (ki 7), (ki 3), (ki 5), (ki 7), (ki 8), (ki (-1)), (ki 1), (ki 9), (ki 10), (ki 29), (ki 31), (ki 10), (ki 11), (ki (-27)), (ki (-25)), (ki 3), kz, (ki (-5)), (ki 5), (ki 6), (ki 3), (ki (-5)), (ki 5), (ki 9), (ki 6), (ki (-5)), (ki 5), (ki 5), (ki 2), (ki (-5)), (ki 5), (ki 8), (ki 5), (ki (-5)), (ki 5), (ki 11), (ki 8), (ki (-5)), (ki 5)])))
theorem kn21 : KnOk Tryz.prog [] := trivial
theorem mm21 : okT (withK [] tab.get) 1000 e21.1 e21.2.1 e21.2.2 = true := by kernel_rfl
theorem pp21 : PureOk Tryz.prog e21.1 (fun bs K => bs = e21.2.1 ∧ K e21.2.2) := pure_of_okT (withK_ok (AllTT.tab tabOk) kn21) mm21
def e22 : Nat × List SV × SV := (97, [(.agg [(.ints .i64 [0, 2, 4, 30]), (.ints .i64 [0, 1, 0, -26]), (ki 1), (ki (-5)), (ki 5), (ki (-5)), (ki 5), (ki (-5)), (ki 5)]), (ki 2)], kb1)
theorem kn22 : KnOk Tryz.prog [e21] := ⟨pp21, trivial⟩
theorem mm22 : okT (withK [e21] tab.get) 1000 e22.1 e22.2.1 e22.2.2 = true := by kernel_rfl
theorem pp22 : PureOk Tryz.prog e22.1 (fun bs K => bs = e22.2.1 ∧ K e22.2.2) := pure_of_okT (withK_ok (AllTT.tab tabOk) kn22) mm22
def e23 : Nat × List SV × SV := (116, [(.agg [(.ints .i64 [0, 2, 4, 30]), (.ints .i64 [0, 1, 0, -26]), (ki 1), (ki (-5)), (ki 5), (ki (-5)), (ki 5), (ki (-5)), (ki 5)]), (ki 4)], (.rd 4 14 (rowOf 4 [kz, (ki 1), (ki (-1)), (ki 1), (ki 1), (ki 2), (ki (-1)), (ki 1), (ki 3), (ki 4), (ki 1), (ki 3), (ki 4), (ki 5), kz, (ki 2), (ki 6), (ki 7), (ki 3), (ki 5), (ki 7), (ki 8), (ki (-1)), (ki 1), (ki 9), (ki 10), (ki 29), (ki 31), (ki 10), (ki 11), (ki (-27)), (ki (-25)), (ki 3), kz, (ki (-5)), (ki 5), (ki 6), (ki 3), (ki (-5)), (ki 5), (ki 9), (ki 6), (ki (-5)), (ki 5), (ki 4), (ki 1), (ki (-5)), (ki 5), (ki 7), (ki 4), (ki (-5)), (ki 5), (ki 10), (ki 7), (ki (-5)), (ki 5)])))
theorem kn23 : KnOk Tryz.prog [] := trivial
theorem mm23 : okT (withK [] tab.get) 1000 e23.1 e23.2.1 e23.2.2 = true := by kernel_rfl
theorem pp23 : PureOk Tryz.prog e23.1 (fun bs K => bs = e23.2.1 ∧ K e23.2.2) := pure_of_okT (withK_ok (AllTT.tab tabOk) kn23) mm23
end Go.Proofs.YtlegfejimphfbaaGreat
end
