import Derived.Test.YthlccadnojnkaaaGreatRows
import Derived.Test.YthlccadnojnkaaaGreatZk2
import Derived.WalkKit
import Derived.Below
import Derived.ProofKit
import Derived.OpenShut
import Derived.ChangeOld
import Derived.ChangeSlices
import Derived.ChangeMaps
import Derived.ChangeSame
import Derived.Stop.Joined
import Derived.Lib.SmallJoins
import Derived.Deep.Slices
namespace Go.Proofs.YthlccadnojnkaaaGreat
open Go Go.Deep Go.ChangeShapes Go.WideShapes Go.ChangeAt Go.RowKit
open Go.ChangeMaps (open_string shut_string)
theorem own:ownKnob Tryz.prog.godebug=none:=by kernel_rfl
theorem bP:laidOutB Tryz.prog=true:=by kernel_rfl
theorem tR (b off k:Nat):(⟨b,off,none⟩:Addr).add k=⟨b,off+k,none⟩:=by
 unfold Addr.add;split
 ·rename_i h;subst h;rfl
 rfl
theorem aAc {α:Type} {P:Nat->α->Prop}:∀ n:Nat,(∀ i,i<n->∃ x,P i x)->∃ xs:List α,xs.length=n/\∀ i (h:i<xs.length),P i xs[i]
 | 0,_=>⟨[],rfl,fun i h=>absurd h (Nat.not_lt_zero i)⟩
 | n+1,h=>by
  obtain⟨xs,hl,hx⟩:=aAc n (fun i hi=>h i (by omega));obtain⟨x,hn⟩:=h n (by omega);refine⟨xs++[x],by simp[hl],fun i hi=>?_⟩;by_cases e:i<xs.length
  ·rw[List.getElem_append_left e];exact hx i e
  ·have e2:i=n:=(by simp at hi;omega);subst e2;have e3:(xs++[x])[i]=x:=(by simp[List.getElem_append_right,hl]);rw[e3];exact hn
