import Derived.Test.YthlccadnojnkaaaGreatZk8
import Derived.Test.YthlccadnojnkaaaGreatZk9
import Derived.Test.YthlccadnojnkaaaGreatZk2
set_option maxHeartbeats 2000000
set_option maxRecDepth 100000
namespace Go.Proofs.YthlccadnojnkaaaGreat.Co.S
open Go Go.RowKit Go.Shelf Go.Proofs Go.Proofs.YthlccadnojnkaaaGreat Go.Proofs.YthlccadnojnkaaaGreat.Co
abbrev T3:=Int×Int×ByteArray
def cells3 (l:List T3):List Value:=l.flatMap fun x=>[.int .i64 x.1,.int .i64 x.2.1,.string x.2.2]
theorem gT (xs ys:List T3):cells3 (xs++ys)=cells3 xs++cells3 ys:=by simp[cells3]
theorem dR (xs:List T3):(cells3 xs).length=xs.length*3:=by
 induction xs with
 | nil=>rfl
 | cons x r ih =>
  have e:cells3 (x::r)=[.int .i64 x.1,.int .i64 x.2.1,.string x.2.2]++cells3 r:=(by simp[cells3]);rw[e,List.length_append,ih];simp;omega
theorem dG (xs:List T3) (i:Nat) (h:i<xs.length):(cells3 xs)[i*3]?=some (.int .i64 xs[i].1)/\(cells3 xs)[i*3+1]?=some (.int .i64 xs[i].2.1)/\(cells3 xs)[i*3+2]?=some (.string xs[i].2.2):=by
 induction xs generalizing i with
 | nil=>simp at h
 | cons x r ih =>
  cases i with
  | zero=>simp[cells3]
  | succ i =>
   have:=ih i (by simpa using h)
   have e:cells3 (x::r)=[.int .i64 x.1,.int .i64 x.2.1,.string x.2.2]++cells3 r:=(by simp[cells3]);rw[e];rw[show (i+1)*3=3+i*3 by omega,show 3+i*3+1=3+(i*3+1) by omega,show 3+i*3+2=3+(i*3+2) by omega];rw[List.getElem?_append_right (by simp),List.getElem?_append_right (by simp),List.getElem?_append_right (by simp)];simpa using this
theorem wI (xs:List T3) (i:Nat) (h:i<xs.length) (x:T3):cells3 (xs.set i x)=(((cells3 xs).set (i*3) (.int .i64 x.1)).set (i*3+1) (.int .i64 x.2.1)).set (i*3+2) (.string x.2.2):=by
 induction xs generalizing i with
 | nil=>simp at h
 | cons y r ih =>
  have e:∀ (y:T3) r,cells3 (y::r)=.int .i64 y.1::.int .i64 y.2.1::.string y.2.2::cells3 r:=(fun y r=>by simp[cells3]);cases i with
  | zero=>simp[e]
  | succ i =>
   have:=ih i (by simpa using h)
   rw[List.set_cons_succ,e,e,this,show (i+1)*3=i*3+1+1+1 by omega];simp only[qIq]
def wd (s:ByteArray):K 12:=if h:s.size<=12 then ⟨s,h⟩ else ⟨⟨#[]⟩,by decide⟩
theorem qL {s:ByteArray} (h:s.size<=12):(wd s).1=s:=by unfold wd;rw[dif_pos h]
theorem aGG {s t:ByteArray} (h:s.size<=12) (k:t.size<=12) (e:wd s=wd t):s=t:=by rw[<- qL h,<- qL k,e]
structure Cm (cb:Nat) (kind:Int) (v:Value) (n:Int) (L:List (K 12×Int)) (W0 W:World):Prop where
 c0:W.cell? ⟨cb,0,none⟩=some (Value.int .i64 (kind))
 c1:W.cell? ⟨cb,1,none⟩=some v
 dm:Dm W0 cb L W
 c4:W.cell? ⟨cb,4,none⟩=some (Value.int .i64 (n))
section
variable {cb:Nat} {kind n:Int} {v:Value} {L:List (K 12×Int)} {W0 W W':World}
theorem Dm.fz {mb:Nat} (h:Dm W0 mb L W) (j:Nat):W.frozen? ⟨mb,j,none⟩=false:=by obtain⟨cv,h1,_⟩:=h.mp;exact h1.fz j
theorem Cm.lt (h:Cm cb kind v n L W0 W):cb<W.heap.size:=h.dm.lt
theorem Cm.later (h:Cm cb kind v n L W0 W) (hb:Below W.heap.size W W'):Cm cb kind v n L W0 W':=by
 have e:=hb.block cb h.lt;exact⟨(World.cell?_of_block (w:=W) e).trans h.c0,(World.cell?_of_block (w:=W) e).trans h.c1,h.dm.later hb,(World.cell?_of_block (w:=W) e).trans h.c4⟩
theorem Dm.set {mb:Nat} (h:Dm W0 mb L W) (j:Nat) (h2:j≠2) (h3:j≠3) (u:Value):Dm W0 mb L (W.setCell ⟨mb,j,none⟩ u):=by
 obtain⟨cv,m,q⟩:=h.mp;obtain⟨t,p,r1,r2,r3⟩:=m.rt;refine⟨⟨cv,⟨m.dm,?_,⟨t,p,?_,Tr.of (fun b h1 _=>Below.heap_setCell _ _ _ b (by intro e;simp at e;omega)) r2,r3⟩,fun i=>by rw[World.frozen?_setCell];exact m.fz i,m.srt,m.bel.setCell (Nat.zero_le _) _,m.ty.set j u⟩,q⟩,h.pos,h.len⟩
 ·rw[World.cell?_setCell_other _ _ _ _ (fun e=>h2 (by cases e;rfl))];exact m.c0
 rw[World.cell?_setCell_other _ _ _ _ (fun e=>h3 (by cases e;rfl))];exact r1
theorem Cm.set4 (h:Cm cb kind v n L W0 W) (k:Int):Cm cb kind v k L W0 (W.setCell ⟨cb,4,none⟩ (Value.int .i64 (k))) :=
 ⟨by rw[World.cell?_setCell_other _ _ _ _ (by simp)];exact h.c0,by rw[World.cell?_setCell_other _ _ _ _ (by simp)];exact h.c1,h.dm.set 4 (by decide) (by decide) _,World.cell?_setCell_same _ _ _ h.c4⟩
theorem Cm.set1 (h:Cm cb kind v n L W0 W) (u:Value):Cm cb kind u n L W0 (W.setCell ⟨cb,1,none⟩ u) :=
 ⟨by rw[World.cell?_setCell_other _ _ _ _ (by simp)];exact h.c0,World.cell?_setCell_same _ _ _ h.c1,h.dm.set 1 (by decide) (by decide) _,by rw[World.cell?_setCell_other _ _ _ _ (by simp)];exact h.c4⟩
theorem Cm.map {L':List (K 12×Int)} (h:Cm cb kind v n L W0 W) (hd:Dm W0 cb L' W') (hc:Chm cb W W'):Cm cb kind v n L' W0 W' :=
 ⟨(hc.keep 0 (by decide) (by decide)).trans h.c0,(hc.keep 1 (by decide) (by decide)).trans h.c1,hd,(hc.keep 4 (by decide) (by decide)).trans h.c4⟩
theorem Cm.other {row:Option Nat} (h:Cm cb kind v n L W0 W) (hg:W.grownBy W' row) (hr:∀ k,row=some k->k≠cb/\Ty W k):Cm cb kind v n L W0 W':=by
 obtain⟨cv,m,q⟩:=h.dm.mp;have e:W'.heap[cb]?=W.heap[cb]?:=hg.block cb h.lt (fun x=>(hr cb x.symm).1 rfl);obtain⟨t,p,r1,r2,r3⟩:=m.rt
 refine⟨(World.cell?_of_block (w:=W) e).trans h.c0,(World.cell?_of_block (w:=W) e).trans h.c1,⟨⟨cv,⟨m.dm,(World.cell?_of_block (w:=W) e).trans m.c0,⟨t,p,(World.cell?_of_block (w:=W) e).trans r1,Tr.of_nodes (fun b cs hb=>hg.block b (aC hb) (fun x=>?_)) r2,r3⟩,fun j=>(World.frozen?_of_block (w:=W) e).trans (m.fz j),m.srt,
  m.bel.trans ⟨hg.os,hg.tape,hg.output,hg.size,fun k hk=>absurd hk (Nat.not_lt_zero _)⟩,m.ty.of e⟩,q⟩,h.dm.pos,h.dm.len⟩,(World.cell?_of_block (w:=W) e).trans h.c4⟩
 obtain⟨_,cs',ty,h3,h4⟩:=hr b x.symm;rw[hb] at h3;cases h3;exact absurd h4 (by decide)
theorem sJ {m:Nat} {xs:List Value} {base:Nat} (h:Cm cb kind v n L W0 W) (hr:HRow W base 32 3 v m xs):Calls Tryz.prog 144 #[.pointer (some ⟨cb,0,none⟩)] W fun e w'=>e=.returned (Value.int .i64 ((m:Int)))/\w'=W:=by
 have c1:=h.c1;obtain⟨p,cap,rfl,hm,_⟩:=hr.isslice;clear h hr;go_enter Tryz.func144,Tryz.ntmps144
 go_wp2
 go_ret;exact⟨rfl,rfl⟩
theorem aAR (h:Cm cb kind v n L W0 W):Calls Tryz.prog 118 #[.pointer (some ⟨cb,0,none⟩)] W fun e w'=>e=.returned (Value.int .i64 ((L.length:Int)))/\w'=W:=by
 have hl:=aEH h.dm;generalize L.length=z at hl;go_enter Tryz.func118,Tryz.ntmps118;go_wp2_with (go_at_call 149;(with_reducible refine hl.mono ?_);rintro e w' ⟨rfl,hw⟩;subst w');go_ret;exact⟨rfl,rfl⟩
end
section
variable {cb:Nat} {kind n:Int} {v:Value} {L:List (K 12×Int)} {W0 W W':World}
def inC (kind:Int) (x:T3):Bool:=mayV x.1 x.2.1 x.2.2.data.toList&&(decide (x.1=0) || decide (x.1=kind))
theorem jR (h:Cm cb kind v n L W0 W) (k n1:Int) (s:ByteArray) (hs:s.size<=maxLen):Calls Tryz.prog 108 #[.pointer (some ⟨cb,0,none⟩),.agg #[.int .i64 (k),.int .i64 (n1),.string (s)]] W fun e w'=>e=.returned (.bool (inC kind (k,n1,s)))/\Below W.heap.size W w':=by
 have c0:=h.c0;have hlt:=h.lt;have hnew:=heap_alloc_new W (.cells #[.int .i64 k,.int .i64 n1,.string s] 32);have hbel:=aD W (.cells #[.int .i64 k,.int .i64 n1,.string s] 32);obtain⟨B,hB⟩:∃ B,W.heap.size=B:=⟨_,rfl⟩;have hmay:=(fun w=>aAP k n1 s w hs);rw[hB] at hnew hbel hlt ⊢
 have hK:(fun w=>w.cell? ⟨B,0,none⟩=some (.int .i64 k)/\w.cell? ⟨B,1,none⟩=some (.int .i64 n1)/\w.cell? ⟨B,2,none⟩=some (.string s)/\w.cell? ⟨cb,0,none⟩=some (.int .i64 kind)/\Below B W w/\B<w.heap.size) (W.alloc (.cells #[.int .i64 k,.int .i64 n1,.string s] 32)).drew :=
  ⟨aA hnew 0,aA hnew 1,aA hnew 2,(World.cell?_of_block (w:=W) (hbel.block cb hlt)).trans c0,hbel.drew,by show B<(W.alloc _).heap.size;simp;omega⟩
 have keep:∀ (w w'':World),(w.cell? ⟨B,0,none⟩=some (.int .i64 k)/\w.cell? ⟨B,1,none⟩=some (.int .i64 n1)/\w.cell? ⟨B,2,none⟩=some (.string s)/\w.cell? ⟨cb,0,none⟩=some (.int .i64 kind)/\Below B W w/\B<w.heap.size)->Below w.heap.size w w'' ->
   (w''.cell? ⟨B,0,none⟩=some (.int .i64 k)/\w''.cell? ⟨B,1,none⟩=some (.int .i64 n1)/\w''.cell? ⟨B,2,none⟩=some (.string s)/\w''.cell? ⟨cb,0,none⟩=some (.int .i64 kind)/\Below B W w''/\B<w''.heap.size):=fun w w'' ⟨h0,h1,h2,h3,h4,h5⟩ hb =>
  ⟨(World.cell?_of_block (w:=w) (hb.block B h5)).trans h0,(World.cell?_of_block (w:=w) (hb.block B h5)).trans h1,(World.cell?_of_block (w:=w) (hb.block B h5)).trans h2,(World.cell?_of_block (w:=w) (hb.block cb (by omega))).trans h3,h4.trans (hb.mono (by omega)),by have:=hb.size;omega⟩
 have HK:=qAq hK;clear hnew hbel hK;unfold inC;simp only;generalize mayV k n1 s.data.toList=may at hmay ⊢;cases may with
 | false =>
  simp only[Bool.false_and];go_enter Tryz.func108,Tryz.ntmps108;go_wp2_with fail;refine Par.wp_region_par 21 [.pointer (some ⟨cb,0,none⟩),.bool true,.bool true,.agg #[.int .i64 k,.int .i64 n1,.string s],.bool false,.bool false,.bool false,undef,undef,undef,undef,undef,undef,undef,undef,undef,undef,undef,undef,.bool false,.bool false] (fun w=>w.cell? ⟨B,0,none⟩=some (.int .i64 k)/\w.cell? ⟨B,1,none⟩=some (.int .i64 n1)/\w.cell? ⟨B,2,none⟩=some (.string s)/\w.cell? ⟨cb,0,none⟩=some (.int .i64 kind)/\Below B W w/\B<w.heap.size) ?A1 ?hm1 ?hB1 ?hA1 HK.out ?hop1 ?hT1
  case hm1=>kernel_rfl
  case hB1=>kernel_rfl
  case hA1 =>
   simp only[Par.putA,Par.dstAt,Act.put,qDq,qEq,qFq,qLq,qGq,qHq,qIq,qJq,qKq];rfl
  case hop1 =>
   simp only[qMq,List.take_zero,Par.GiveAll,and_true];and_intros<;>intro w' hR<;>have HR:=qAq hR
   rotate_left 3
   ·obtain⟨b0,b1,b2,c0,hW,hB⟩:=hR;simp only[Par.Gives];go_simp;all_goals exact HR.out
   ·clear hR;simp only[Par.Gives];go_simp;exact (hmay w').mono (fun e w'' ⟨he,hb⟩=>⟨he,keep _ _ HR.out hb⟩)
   rotate_left 16
   all_goals(clear hR;simp only[Par.Gives];go_simp;all_goals exact HR.out)
  case hT1 =>
   intro w' hR;simp only[qNq,List.drop_zero];obtain⟨_,_,_,_,hW,_⟩:=hR;go_wp2_with fail;go_ret;exact⟨rfl,hW⟩
 | true =>
  by_cases h0:k=0
  ·have e0:(k==0)=true:=(by simp[h0]);have e0d:decide (k=0)=true:=decide_eq_true h0;rw[e0d];simp only[Bool.true_and,Bool.true_or];clear e0d h0;go_enter Tryz.func108,Tryz.ntmps108;go_wp2_with fail;refine Par.wp_region_par 21 [.pointer (some ⟨cb,0,none⟩),.bool true,.bool true,.agg #[.int .i64 k,.int .i64 n1,.string s],.bool true,.bool true,.bool true,.pointer (some ⟨B,0,none⟩),.int .i64 k,.bool true,.bool true,undef,undef,undef,undef,undef,undef,undef,.bool true,.bool true,.bool true] (fun w=>w.cell? ⟨B,0,none⟩=some (.int .i64 k)/\w.cell? ⟨B,1,none⟩=some (.int .i64 n1)/\w.cell? ⟨B,2,none⟩=some (.string s)/\w.cell? ⟨cb,0,none⟩=some (.int .i64 kind)/\Below B W w/\B<w.heap.size) ?A2 ?hm2 ?hB2 ?hA2 HK.out ?hop2 ?hT2
   case hm2=>kernel_rfl
   case hB2=>kernel_rfl
   case hA2 =>
    simp only[Par.putA,Par.dstAt,Act.put,qDq,qEq,qFq,qLq,qGq,qHq,qIq,qJq,qKq];rfl
   case hop2 =>
    simp only[qMq,List.take_zero,Par.GiveAll,and_true];and_intros<;>intro w' hR<;>have HR:=qAq hR
    rotate_left 3
    ·obtain⟨b0,b1,b2,c0,hW,hB⟩:=hR;simp only[Par.Gives];go_simp;all_goals exact HR.out
    ·clear hR;simp only[Par.Gives];go_simp;exact (hmay w').mono (fun e w'' ⟨he,hb⟩=>⟨he,keep _ _ HR.out hb⟩)
    rotate_left 3
    ·obtain⟨b0,b1,b2,c0,hW,hB⟩:=hR;simp only[Par.Gives];go_simp;all_goals exact HR.out
    rotate_left 12
    all_goals(clear hR;simp only[Par.Gives];go_simp;all_goals exact HR.out)
   case hT2 =>
    intro w' hR;simp only[qNq,List.drop_zero];obtain⟨_,_,_,_,hW,_⟩:=hR;go_wp2_with fail;go_ret;exact⟨rfl,hW⟩
  ·have e0:(k==0)=false:=(by simp[h0]);have e0d:decide (k=0)=false:=decide_eq_false h0;rw[e0d];simp only[Bool.true_and,Bool.false_or];have ee:(k==kind)=decide (k=kind):=(by rw[Bool.eq_iff_iff];simp);generalize decide (k=kind)=ke at ee ⊢;clear e0d h0;go_enter Tryz.func108,Tryz.ntmps108;go_wp2_with fail;refine Par.wp_region_par 21 [.pointer (some ⟨cb,0,none⟩),.bool true,.bool true,.agg #[.int .i64 k,.int .i64 n1,.string s],.bool true,.bool true,.bool true,.pointer (some ⟨B,0,none⟩),.int .i64 k,.bool false,.bool false,.pointer (some ⟨B,0,none⟩),.int .i64 k,.pointer (some ⟨cb,0,none⟩),.pointer (some ⟨cb,0,none⟩),.pointer (some ⟨cb,0,none⟩),.int .i64 kind,.bool ke,.bool ke,.bool ke,.bool ke] (fun w=>w.cell? ⟨B,0,none⟩=some (.int .i64 k)/\w.cell? ⟨B,1,none⟩=some (.int .i64 n1)/\w.cell? ⟨B,2,none⟩=some (.string s)/\w.cell? ⟨cb,0,none⟩=some (.int .i64 kind)/\Below B W w/\B<w.heap.size) ?A3 ?hm3 ?hB3 ?hA3 HK.out ?hop3 ?hT3
   case hm3=>kernel_rfl
   case hB3=>kernel_rfl
   case hA3 =>
    simp only[Par.putA,Par.dstAt,Act.put,qDq,qEq,qFq,qLq,qGq,qHq,qIq,qJq,qKq];rfl
   case hop3 =>
    simp only[qMq,List.take_zero,Par.GiveAll,and_true];and_intros<;>intro w' hR<;>have HR:=qAq hR
    rotate_left 3
    ·obtain⟨b0,b1,b2,c0,hW,hB⟩:=hR;simp only[Par.Gives];go_simp;all_goals exact HR.out
    ·clear hR;simp only[Par.Gives];go_simp;exact (hmay w').mono (fun e w'' ⟨he,hb⟩=>⟨he,keep _ _ HR.out hb⟩)
    rotate_left 3
    ·obtain⟨b0,b1,b2,c0,hW,hB⟩:=hR;simp only[Par.Gives];go_simp;all_goals exact HR.out
    rotate_left 3
    ·obtain⟨b0,b1,b2,c0,hW,hB⟩:=hR;simp only[Par.Gives];go_simp;all_goals exact HR.out
    rotate_left 3
    ·obtain⟨b0,b1,b2,c0,hW,hB⟩:=hR;simp only[Par.Gives];go_simp;all_goals exact HR.out
    rotate_left 4
    all_goals(clear hR;simp only[Par.Gives];go_simp;all_goals exact HR.out)
   case hT3 =>
    intro w' hR;simp only[qNq,List.drop_zero];obtain⟨_,_,_,_,hW,_⟩:=hR;go_wp2_with fail;go_ret;exact⟨rfl,hW⟩
end
section
variable {cb:Nat} {kind n:Int} {v:Value} {L:List (K 12×Int)} {W0 W W':World}
theorem wJ (h:Cm cb kind v n L W0 W) (n1:Int) (s:ByteArray) (hn:0<=n/\n<=1000000):Calls Tryz.prog 110 #[.pointer (some ⟨cb,0,none⟩),.agg #[.int .i64 (0),.int .i64 (n1),.string (s)]] W fun e w'=>e=.returned (.tuple #[])/\Cm cb kind v (n+1) L W0 w'/\Chg (fun b=>b=cb) W w':=by
 have hlt:=h.lt;have c4:=h.c4;have fz:=h.dm.fz 4;have hw:IntKind.i64.wrap (n+1)=n+1:=(by rw[IntKind.wrap_i64];omega);go_enter Tryz.func110,Tryz.ntmps110
 go_wp2
 go_end0
 exact⟨rfl,(h.set4 _).later (aD _ _),((Chg.refl (fun b=>b=cb) W).setCell (fun _=>rfl) _).alloc _⟩
theorem qM (h:Cm cb kind v n L W0 W) (n1:Int) (s:ByteArray) (hn:1<=n/\n<=1000000):Calls Tryz.prog 109 #[.pointer (some ⟨cb,0,none⟩),.agg #[.int .i64 (0),.int .i64 (n1),.string (s)]] W fun e w'=>e=.returned (.tuple #[])/\Cm cb kind v (n-1) L W0 w'/\Chg (fun b=>b=cb) W w':=by
 have hlt:=h.lt;have c4:=h.c4;have fz:=h.dm.fz 4;have hw:IntKind.i64.wrap (n-1)=n-1:=(by rw[IntKind.wrap_i64];omega);go_enter Tryz.func109,Tryz.ntmps109
 go_wp2
 go_end0
 exact⟨rfl,(h.set4 _).later (aD _ _),((Chg.refl (fun b=>b=cb) W).setCell (fun _=>rfl) _).alloc _⟩
theorem sK (h:Cm cb kind v n L W0 W) (n1:Int) (s:ByteArray) (k:Int) (hk0:k≠0) (hk2:k≠2):Calls Tryz.prog 110 #[.pointer (some ⟨cb,0,none⟩),.agg #[.int .i64 (k),.int .i64 (n1),.string (s)]] W fun e w'=>e=.returned (.tuple #[])/\Below W.heap.size W w':=by
 have hlt:=h.lt;have c4:=h.c4;have fz:=h.dm.fz 4;have e0:(k==0)=false:=(by simp[hk0]);have e2:(k==2)=false:=(by simp[hk2]);go_enter Tryz.func110,Tryz.ntmps110
 go_wp2
 go_end0
 exact⟨rfl,aD W _⟩
theorem oU (h:Cm cb kind v n L W0 W) (n1:Int) (s:ByteArray) (k:Int) (hk0:k≠0) (hk2:k≠2):Calls Tryz.prog 109 #[.pointer (some ⟨cb,0,none⟩),.agg #[.int .i64 (k),.int .i64 (n1),.string (s)]] W fun e w'=>e=.returned (.tuple #[])/\Below W.heap.size W w':=by
 have hlt:=h.lt;have c4:=h.c4;have fz:=h.dm.fz 4;have e0:(k==0)=false:=(by simp[hk0]);have e2:(k==2)=false:=(by simp[hk2]);go_enter Tryz.func109,Tryz.ntmps109
 go_wp2
 go_end0
 exact⟨rfl,aD W _⟩
theorem wK (h:Cm cb kind v n L W0 W) (n1:Int) (s:ByteArray) (hs:s.size<=12) (hl:L.length+1<=999999) (ht:tm (wd s) L+1<=1000000):Calls Tryz.prog 110 #[.pointer (some ⟨cb,0,none⟩),.agg #[.int .i64 (2),.int .i64 (n1),.string (s)]] W fun e w'=>e=.returned (.tuple #[])/\Cm cb kind v n (insL keyOf (wd s) (tm (wd s) L+1) L) W0 w'/\Chg (fun b=>b=cb) W w':=by
 have hlt:=h.lt;have hnew:=heap_alloc_new W (.cells #[.int .i64 2,.int .i64 n1,.string s] 32);have hbel:=aD W (.cells #[.int .i64 2,.int .i64 n1,.string s] 32);obtain⟨B,hB⟩:∃ B,W.heap.size=B:=⟨_,rfl⟩;have hws:=qL hs;rw[hB] at hnew hbel hlt
 have HK:=qAq (show (fun w:World=>w.cell? ⟨B,2,none⟩=some (.string s)/\Below B W w/\B<w.heap.size) (W.alloc (.cells #[.int .i64 2,.int .i64 n1,.string s] 32)).drew from
  ⟨aA hnew 2,hbel.drew,by show B<(W.alloc _).heap.size;simp;omega⟩)
 have h:∀ {y:World},Below B W y->Cm cb kind v n L W0 y:=(fun hb=>h.later (hB▸hb));have hcal:=(fun (y:World) (hy:Below B W y)=>dD (wd s) (h hy).dm hl ht);simp only[hws] at hcal;clear hnew hbel;go_enter Tryz.func110,Tryz.ntmps110;go_wp2_with fail;refine Par.wp_region_par 5 [.pointer (some ⟨cb,0,none⟩),.pointer (some ⟨cb,0,none⟩),.pointer (some ⟨cb,2,none⟩),.pointer (some ⟨B,2,none⟩),.string s] (fun w=>w.cell? ⟨B,2,none⟩=some (.string s)/\Below B W w/\B<w.heap.size) ?A1 ?hm1 ?hB1 ?hA1 HK.out ?hop1 ?hT1
 case hm1=>kernel_rfl
 case hB1=>kernel_rfl
 case hA1 =>
  simp only[Par.putA,Par.dstAt,Act.put,qDq,qEq,qFq,qLq,qGq,qHq,qIq,qJq,qKq];rfl
 case hop1 =>
  simp only[qMq,List.take_zero,Par.GiveAll,and_true];and_intros<;>intro w' hR<;>have HR:=qAq hR
  rotate_left 4
  ·obtain⟨b2,hW,hB⟩:=hR;simp only[Par.Gives];go_simp;all_goals exact HR.out
  all_goals(clear hR;simp only[Par.Gives];go_simp;all_goals exact HR.out)
 intro w' hR;simp only[qNq,List.drop_zero];have hbW:=hR.2.1;have hh:=hcal w' hbW;go_wp2_with (go_at_call 146;(with_reducible refine hh.mono ?_);rintro e w3 ⟨rfl,d3,c3⟩)
 go_end0
 exact⟨rfl,(h hbW).map d3 c3,(Chg.of_below (S:=fun b=>b=cb) (hB.symm▸hbW)).trans c3.chg (fun _ _ x=>x) (fun _ _ x=>x)⟩
theorem qN (h:Cm cb kind v n L W0 W) (n1:Int) (s:ByteArray) (hs:s.size<=12) (hl:L.length+1<=999999):Calls Tryz.prog 109 #[.pointer (some ⟨cb,0,none⟩),.agg #[.int .i64 (2),.int .i64 (n1),.string (s)]] W fun e w'=>e=.returned (.tuple #[])/\Cm cb kind v n (takeL (wd s) L) W0 w'/\Chg (fun b=>b=cb) W w':=by
 have hlt:=h.lt;have hnew:=heap_alloc_new W (.cells #[.int .i64 2,.int .i64 n1,.string s] 32);have hbel:=aD W (.cells #[.int .i64 2,.int .i64 n1,.string s] 32);obtain⟨B,hB⟩:∃ B,W.heap.size=B:=⟨_,rfl⟩;have hws:=qL hs;rw[hB] at hnew hbel hlt
 have HK:=qAq (show (fun w:World=>w.cell? ⟨B,2,none⟩=some (.string s)/\Below B W w/\B<w.heap.size) (W.alloc (.cells #[.int .i64 2,.int .i64 n1,.string s] 32)).drew from
  ⟨aA hnew 2,hbel.drew,by show B<(W.alloc _).heap.size;simp;omega⟩)
 have h:∀ {y:World},Below B W y->Cm cb kind v n L W0 y:=(fun hb=>h.later (hB▸hb));have hcal:=(fun (y:World) (hy:Below B W y)=>aEG (wd s) (h hy).dm hl);simp only[hws] at hcal;clear hnew hbel;go_enter Tryz.func109,Tryz.ntmps109;go_wp2_with fail;refine Par.wp_region_par 5 [.pointer (some ⟨cb,0,none⟩),.pointer (some ⟨cb,0,none⟩),.pointer (some ⟨cb,2,none⟩),.pointer (some ⟨B,2,none⟩),.string s] (fun w=>w.cell? ⟨B,2,none⟩=some (.string s)/\Below B W w/\B<w.heap.size) ?A2 ?hm2 ?hB2 ?hA2 HK.out ?hop2 ?hT2
 case hm2=>kernel_rfl
 case hB2=>kernel_rfl
 case hA2 =>
  simp only[Par.putA,Par.dstAt,Act.put,qDq,qEq,qFq,qLq,qGq,qHq,qIq,qJq,qKq];rfl
 case hop2 =>
  simp only[qMq,List.take_zero,Par.GiveAll,and_true];and_intros<;>intro w' hR<;>have HR:=qAq hR
  rotate_left 4
  ·obtain⟨b2,hW,hB⟩:=hR;simp only[Par.Gives];go_simp;all_goals exact HR.out
  all_goals(clear hR;simp only[Par.Gives];go_simp;all_goals exact HR.out)
 intro w' hR;simp only[qNq,List.drop_zero];have hbW:=hR.2.1;have hh:=hcal w' hbW;go_wp2_with (go_at_call 145;(with_reducible refine hh.mono ?_);rintro e w3 ⟨rfl,d3,c3⟩)
 go_end0
 exact⟨rfl,(h hbW).map d3 c3,(Chg.of_below (S:=fun b=>b=cb) (hB.symm▸hbW)).trans c3.chg (fun _ _ x=>x) (fun _ _ x=>x)⟩
theorem aCp {l:List T3} {base:Nat} (h:Cm cb kind v n L W0 W) (hr:HRow W base 32 3 v l.length (cells3 l)) (i:Nat) (hi:i<l.length):Calls Tryz.prog 107 #[.pointer (some ⟨cb,0,none⟩),.int .i64 ((i:Int))] W fun e w'=>e=.returned (.tuple #[(Value.agg #[Value.int .i64 ((l[i]).1),Value.int .i64 ((l[i]).2.1),Value.string ((l[i]).2.2)]),.bool true])/\Below W.heap.size W w':=by
 have hlt:=h.lt;have c1:=h.c1;have hlen:=(fun y (hy:Below W.heap.size W y)=>sJ (h.later hy) (hr.later hy));obtain⟨g,cap,rfl,hnc,_⟩:=hr.slice (by omega);obtain⟨h0,h1,h2⟩:=dG l i hi;have a0:=hr.cell h0;have a1:=hr.cell h1;have a2:=hr.cell h2;have hg:=(hr.lt g rfl).2;have b0:=hlen _ (aD W (.cells #[.int .i64 0,.int .i64 0,.string ⟨#[]⟩] 32));generalize l[i]=x at a0 a1 a2 ⊢;obtain⟨k,n1,s⟩:=x;obtain⟨m,hm⟩:∃ m,l.length=m:=⟨_,rfl⟩;rw[hm] at hi b0 hnc c1;have d0:decide ((i:Int)<0)=false:=decide_eq_false (by omega);have d1:decide ((m:Int)<=(i:Int))=false:=decide_eq_false (by omega);have d2:(i:Int)<(m:Int):=(by omega);clear h0 h1 h2 hlen hr h hm;go_enter Tryz.func107,Tryz.ntmps107;go_wp2_with (go_at_call 144;(with_reducible refine b0.mono ?_);rintro e w' ⟨rfl,hw⟩;subst w');refine bodyPost_ret (v:=.tuple #[(Value.agg #[Value.int .i64 (k),Value.int .i64 (n1),Value.string (s)]),.bool true]) (by simp[results,Tryz.results107,go_sem]) rfl ?_;exact⟨rfl,by first|exact aD W _|exact (aD W _).setCell (Nat.le_refl _) _⟩
end
