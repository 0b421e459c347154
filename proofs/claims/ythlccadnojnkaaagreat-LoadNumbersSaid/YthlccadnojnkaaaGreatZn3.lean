import Derived.Test.YthlccadnojnkaaaGreatRows
import Derived.Test.YthlccadnojnkaaaGreatZn2
import Derived.Stop.Joined
import Derived.Lib.SmallJoins
namespace Go.Proofs.YthlccadnojnkaaaGreat
open Go.Proofs.Tryz
open Go Go.Deep Go.ChangeShapes Go.WideShapes Go.ChangeAt Go.RowKit
open Go.ChangeMaps (open_string shut_string)
theorem own:ownKnob prog.godebug=none:=by kernel_rfl
theorem bP:laidOutB prog=true:=by kernel_rfl
theorem tR(b off k:Nat):(⟨b,off,none⟩:Addr).add k=⟨b,off+k,none⟩:=by
 unfold Addr.add;split
 ·rename_i h;subst h;rfl
 rfl
theorem DJ{α:Type}{P:Nat->α->Prop}:∀n:Nat,(∀i,i<n->∃x,P i x)->∃a:List α,a.length=n/\∀i (h:i<a.length),P i a[i]
 | 0,_=>⟨[],rfl,fun i h=>absurd h (yo i)⟩
 | n+1,h=>by
  obtain⟨a,b,d⟩:=DJ n (fun i c=>h i (by omega));obtain⟨x,f⟩:=h n (by omega);refine⟨a++[x],by simp[b],fun i c=>?_⟩;by_cases e:i<a.length
  ·rw[xc e];exact d i e
  ·have g:i=n:=(by simp at c;omega);subst g;have j:(a++[x])[i]=x:=(by simp[b]);rw[j];exact f
