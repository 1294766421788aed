import Derived.Test.YtgdihdiadlmjiaaVgLM1
import Derived.Test.YtgdihdiadlmjiaaVgY12
import Derived.Test.YtgdihdiadlmjiaaVgR21
set_option linter.all false
namespace Go.Proofs.Ytgdihdiadlmjiaa
open Go Go.Vg
set_option maxRecDepth 10000
theorem PureOk.rs {P : Program} {f : FuncId} {C C' : PC} (h : PureOk P f C') (hc : ∀ xs K, C xs K -> C' xs (fun r => ∃ r', K r' /\ leA r r')) : PureOk P f C :=
 fun w im args vs K hb hv hC => (h w im args vs _ hb hv (hc _ _ hC)).mono fun e w' ⟨r, v, im', he, ⟨r', hk, hl⟩, hcv, rest⟩ => ⟨r', v, im', he, hk, leA_ok hl hcv, rest⟩
def Mp.ev : Mp -> List (Nat × Int × Int)
 | .e0 => []
 | .d1 a b => [(145, a, b)]
 | .t1 a b => [(146, a, b)]
 | .dt a b c e => [(145, a, b), (146, c, e)]
 | .td a b c e => [(145, a, b), (146, c, e)]
def evR (L : List (Nat × Int × Int)) (i : Nat) : List SV := [.ifc (L.getD i (0, 0, 0)).1 (.agg [.int .i64 (L.getD i (0, 0, 0)).2.1, .int .i64 (L.getD i (0, 0, 0)).2.2])]
def C78 : PC := fun args K => ∃ (M : Mp), args = [M.sv] /\ K (.rd 1 M.ev.length (evR M.ev))
theorem q78 : Known Try.prog 78 := ⟨_, Try.func78, by decide, by simp [Try.f78]⟩
def ifS (t : Nat) (a b : Int) : SV := .ifc t (.agg [.int .i64 a, .int .i64 b])
theorem run78e : callQ tab.get (runF tab.get 1000) (.fn 78 []) [Mp.e0.sv] = some (.lit (.slice none 0 0)) := by kernel_rfl
def gRow : Option SV -> Nat -> List SV
 | some (.rd _ _ f) => f
 | _ => fun _ => []
noncomputable def r78 (M : Mp) : Option SV := callQ tab.get (runF tab.get 1000) (.fn 78 []) [M.sv]
theorem r78d (a b : Int) : r78 (.d1 a b) = some (.rd 1 1 (gRow (r78 (.d1 a b)))) /\ gRow (r78 (.d1 a b)) 0 = [ifS 145 a b] := ⟨by kernel_rfl, by kernel_rfl⟩
theorem r78t (a b : Int) : r78 (.t1 a b) = some (.rd 1 1 (gRow (r78 (.t1 a b)))) /\ gRow (r78 (.t1 a b)) 0 = [ifS 146 a b] := ⟨by kernel_rfl, by kernel_rfl⟩
theorem r78dt (a b c e : Int) : r78 (.dt a b c e) = some (.rd 1 2 (gRow (r78 (.dt a b c e)))) /\ gRow (r78 (.dt a b c e)) 0 = [ifS 145 a b] /\ gRow (r78 (.dt a b c e)) 1 = [ifS 146 c e] := ⟨by kernel_rfl, by kernel_rfl, by kernel_rfl⟩
theorem r78td (a b c e : Int) : r78 (.td a b c e) = some (.rd 1 2 (gRow (r78 (.td a b c e)))) /\ gRow (r78 (.td a b c e)) 0 = [ifS 145 a b] /\ gRow (r78 (.td a b c e)) 1 = [ifS 146 c e] := ⟨by kernel_rfl, by kernel_rfl, by kernel_rfl⟩
theorem p78M {M : Mp} {x : SV} (e : r78 M = some x) (h : leA x (.rd 1 M.ev.length (evR M.ev))) : PureOk Try.prog 78 (fun xs K => xs = [M.sv] /\ K (.rd 1 M.ev.length (evR M.ev))) :=
 PureOk.rs (xDy (AllTT.tab tabOk) 1000 e) fun xs K h2 => ⟨h2.1, _, h2.2, h⟩
theorem p78 : PureOk Try.prog 78 C78 := by
 intro w im args vs K hb hv hC
 obtain ⟨M, rfl, hK⟩ := hC
 have one : ∀ {P : Nat -> Prop}, P 0 -> ∀ i, i < 1 -> P i := fun h i hi => (show i = 0 by omega) ▸ h
 have two : ∀ {P : Nat -> Prop}, P 0 -> P 1 -> ∀ i, i < 2 -> P i := fun h h' i hi => by
  rcases (show i = 0 \/ i = 1 by omega) with rfl | rfl
  ·exact h
  ·exact h'
 have fin : PureOk Try.prog 78 (fun xs K => xs = [M.sv] /\ K (.rd 1 M.ev.length (evR M.ev))) := by
  cases M
  case e0 => exact p78M (M := .e0) run78e (.inl (by simp [leR, Mp.ev]))
  case d1 a b => exact p78M (r78d a b).1 (.inr ⟨1, 1, _, _, rfl, rfl, one (by rw [(r78d a b).2]; simp [ifS, evR, Mp.ev, leR, leR.leRs])⟩)
  case t1 a b => exact p78M (r78t a b).1 (.inr ⟨1, 1, _, _, rfl, rfl, one (by rw [(r78t a b).2]; simp [ifS, evR, Mp.ev, leR, leR.leRs])⟩)
  case dt a b c e => exact p78M (r78dt a b c e).1 (.inr ⟨1, 2, _, _, rfl, rfl, two (by rw [(r78dt a b c e).2.1]; simp [ifS, evR, Mp.ev, leR, leR.leRs]) (by rw [(r78dt a b c e).2.2]; simp [ifS, evR, Mp.ev, leR, leR.leRs])⟩)
  case td a b c e => exact p78M (r78td a b c e).1 (.inr ⟨1, 2, _, _, rfl, rfl, two (by rw [(r78td a b c e).2.1]; simp [ifS, evR, Mp.ev, leR, leR.leRs]) (by rw [(r78td a b c e).2.2]; simp [ifS, evR, Mp.ev, leR, leR.leRs])⟩)
 exact fin w im _ vs K hb hv ⟨rfl, hK⟩
end Go.Proofs.Ytgdihdiadlmjiaa
