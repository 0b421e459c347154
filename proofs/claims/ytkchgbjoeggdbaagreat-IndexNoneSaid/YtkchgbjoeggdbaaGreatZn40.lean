import Derived.Test.YtkchgbjoeggdbaaGreatZn39
set_option maxHeartbeats 8000000
set_option maxRecDepth 100000
namespace Go.Proofs.YtkchgbjoeggdbaaGreat
open Go.Proofs.Tryz
open Go Go.RowKit Go.Proofs Co Co.S
def ru(ts:List T)(L:List PT)(o:jt):Int×Int:=
 if fh o.dO o.vals.length=false then(0,1)else match ts[(jz ts o.tbl).toNat]?,L[(jz ts o.tbl).toNat]? with
 | some t,some x=>if jz ts o.tbl<0 then(0,3)else if o.dO=1 then(li t x o.vals,ei t o.vals)else if o.dO=2 then(0,if di x.2 o.id=true then 0 else 6)else(0,pu t x.2 o.id o.col (o.vals.getD 0 z3))
 | _,_=>(0,3)
def t7(ts:List T)(L:List PT)(o:jt):List PT:=if fh o.dO o.vals.length=true then ny ts L o else L
section
variable{K:Nat->Prop}{W0 w:World}{d b m:Nat}{ts:List T}{ps:List Nat}{L1 L2:List PT}{S:Nat->Prop}{vv:Value}{o:jt}
theorem tS(h:PX (DA d ts ps) K W0 w L1)(hv:fk S w vv o.vals)(hf:fh o.dO o.vals.length=false):Calls prog 160 #[.pointer (some ⟨d,0,none⟩),.agg #[.int .i64 o.dO,.string o.tbl,.int .i64 o.id,.string o.col,vv]] w fun e w'=>e=.returned (.tuple #[.int .i64 (ru ts L1 o).1,.int .i64 (ru ts L1 o).2])/\PX (DA d ts ps) K W0 w' (t7 ts L1 o):=by
 unfold ru t7;rw[zw hf,zu (by rw[hf];decide)];obtain⟨p,c,rfl,_,_⟩:=hv.slice;obtain⟨n,l⟩:=ae o.vals.length;rw[l]at hf ⊢;have f:=aD w (.cells #[.int .i64 o.dO,.string o.tbl,.int .i64 o.id,.string o.col,.slice p n c] 73);have b:=z7 w (.cells #[.int .i64 o.dO,.string o.tbl,.int .i64 o.id,.string o.col,.slice p n c] 73);obtain⟨m,g⟩:=ae (w.alloc (.cells #[.int .i64 o.dO,.string o.tbl,.int .i64 o.id,.string o.col,.slice p n c] 73));obtain⟨B,k⟩:=ae w.heap.size;rw[g]at f b;rw[k]at b;have a:=dJ o.dO o.id o.tbl o.col p n c m;rw[hf]at a;have r:=aA b 0;have s:=aA b 1;have t:=aA b 2;have u:=aA b 3;have v:=aA b 4;have x:=aB b;have j:=aa (ab g (ab k (ab f h)));clear g f b k h hv l hf;go_enter func160,ntmps160;go_upto_region 1 with fail;rw[j.1,j.2.1];go_wp2_with (go_at_call 192;refine a.mono ?_;rintro e y⟨rfl,i⟩;have q:=aa (aC j.2.2.1 i);clear a i);go_ret2;exact⟨rfl,j.2.2.2.later q.out⟩
end
section
variable{w:World}{d n c pt:Nat}{id r1 r2:Int}{tb col:ByteArray}{p:Option Addr}{Q:World->Prop}
theorem Dv{k:Int}(hf:fh k n=true)(a:∀j,Below w.heap.size w j->Calls prog 14 #[.pointer (some ⟨d,0,none⟩),.string tb] j fun e w'=>e=.returned (.pointer none)/\Q w'):Calls prog 160 #[.pointer (some ⟨d,0,none⟩),.agg #[.int .i64 k,.string tb,.int .i64 id,.string col,.slice p n c]] w fun e w'=>e=.returned (.tuple #[.int .i64 0,.int .i64 3])/\Q w':=by
 have g:=aD w (.cells #[.int .i64 k,.string tb,.int .i64 id,.string col,.slice p n c] 73);have f:=z7 w (.cells #[.int .i64 k,.string tb,.int .i64 id,.string col,.slice p n c] 73);obtain⟨j,h⟩:=ae (w.alloc (.cells #[.int .i64 k,.string tb,.int .i64 id,.string col,.slice p n c] 73));obtain⟨B,m⟩:=ae w.heap.size;rw[h]at g f;rw[m]at f;have b:=dJ k id tb col p n c j;rw[hf]at b;have r:=aA f 0;have s:=aA f 1;have t:=aA f 2;have u:=aA f 3;have v:=aA f 4;have x:=aB f;have l:=aa (ab h (ab m (ab g f)));have y:=aa a;clear h g f m hf a;go_enter func160,ntmps160;go_upto_region 1 with fail;rw[l.1,l.2.1]
 go_wp2_with (first|(go_at_call 192;refine b.mono ?_;rintro e z⟨rfl,i⟩;have o:=aa (ab (aC l.2.2.1 i) (aE i l.2.2.2));have E:=aA o.2 1;have F:=aB o.2;have a:=y.out z o.1;clear b i r s t u v x)|(go_at_call 14;refine a.mono ?_;rintro e G⟨rfl,q⟩;have A:=aa q;clear a q))
 go_ret2;exact⟨rfl,A.out⟩
theorem Gc(a:∀h,Below w.heap.size w h->Calls prog 14 #[.pointer (some ⟨d,0,none⟩),.string tb] h fun e w'=>e=.returned (.pointer (some ⟨pt,0,none⟩))/\w'=h)(b:∀h,Below w.heap.size w h->Calls prog 57 #[.pointer (some ⟨pt,0,none⟩),.slice p n c] h fun e w'=>e=.returned (.tuple #[.int .i64 r1,.int .i64 r2])/\Q w'):Calls prog 160 #[.pointer (some ⟨d,0,none⟩),.agg #[.int .i64 1,.string tb,.int .i64 id,.string col,.slice p n c]] w fun e w'=>e=.returned (.tuple #[.int .i64 r1,.int .i64 r2])/\Q w':=by
 have i:=aD w (.cells #[.int .i64 1,.string tb,.int .i64 id,.string col,.slice p n c] 73);have g:=z7 w (.cells #[.int .i64 1,.string tb,.int .i64 id,.string col,.slice p n c] 73);obtain⟨h,j⟩:=ae (w.alloc (.cells #[.int .i64 1,.string tb,.int .i64 id,.string col,.slice p n c] 73));obtain⟨B,o⟩:=ae w.heap.size;rw[j]at i g;rw[o]at g;have f:=dJ 1 id tb col p n c h;rw[show fh 1 n=true from rfl]at f;have t:=aA g 0;have u:=aA g 1;have v:=aA g 2;have x:=aA g 3;have y:=aA g 4;have z:=aB g;have m:=aa (ab j (ab o (ab i g)));have q:=aa (ab a b);clear j i g o a b;go_enter func160,ntmps160;go_upto_region 1 with fail;rw[m.1,m.2.1]
 go_wp2_with (first|(go_at_call 192;refine f.mono ?_;rintro e r⟨rfl,k⟩;have l:=aa (ab (aC m.2.2.1 k) (aE k m.2.2.2));have F:=aA l.2 0;have G:=aA l.2 1;have H:=aA l.2 4;have I:=aB l.2;have a:=q.1 r l.1;have b:=q.2 r l.1;clear f k t u v x y z)|(go_at_call 14;refine a.mono ?_;rintro e A⟨rfl,J⟩;subst A;clear a)|(go_at_call 57;refine b.mono ?_;rintro e L⟨rfl,s⟩;have E:=aa s;clear b s))
 go_ret2;exact⟨rfl,E.out⟩
theorem FK{r:Bool}(a:∀h,Below w.heap.size w h->Calls prog 14 #[.pointer (some ⟨d,0,none⟩),.string tb] h fun e w'=>e=.returned (.pointer (some ⟨pt,0,none⟩))/\w'=h)(b:∀h,Below w.heap.size w h->Calls prog 24 #[.pointer (some ⟨pt,0,none⟩),.int .i64 id] h fun e w'=>e=.returned (.bool r)/\Q w'):Calls prog 160 #[.pointer (some ⟨d,0,none⟩),.agg #[.int .i64 2,.string tb,.int .i64 id,.string col,.slice p n c]] w fun e w'=>e=.returned (.tuple #[.int .i64 0,.int .i64 (if r=true then 0 else 6)])/\Q w':=by
 have i:=aD w (.cells #[.int .i64 2,.string tb,.int .i64 id,.string col,.slice p n c] 73);have g:=z7 w (.cells #[.int .i64 2,.string tb,.int .i64 id,.string col,.slice p n c] 73);obtain⟨h,j⟩:=ae (w.alloc (.cells #[.int .i64 2,.string tb,.int .i64 id,.string col,.slice p n c] 73));obtain⟨B,o⟩:=ae w.heap.size;rw[j]at i g;rw[o]at g;have f:=dJ 2 id tb col p n c h;rw[show fh 2 n=true from rfl]at f;have v:=aA g 0;have x:=aA g 1;have y:=aA g 2;have z:=aA g 3;have A:=aA g 4;have E:=aB g;have m:=aa (ab j (ab o (ab i g)));have q:=aa (ab a b);clear j i g o a b;go_enter func160,ntmps160;go_upto_region 1 with fail;rw[m.1,m.2.1]
 cases r <;> go_wp2_with (first|(go_at_call 192;refine f.mono ?_;rintro e s⟨rfl,k⟩;have l:=aa (ab (aC m.2.2.1 k) (aE k m.2.2.2));have G:=aA l.2 0;have H:=aA l.2 1;have I:=aA l.2 2;have J:=aB l.2;have a:=q.1 s l.1;have b:=q.2 s l.1;clear f k v x y z A E)|(go_at_call 14;refine a.mono ?_;rintro e F⟨rfl,L⟩;subst F;clear a)|(go_at_call 24;refine b.mono ?_;rintro e M⟨rfl,t⟩;have u:=aa t;clear b t))
 ·go_ret2;exact⟨rfl,u.out⟩
 go_ret2;exact⟨rfl,u.out⟩
theorem C4{vb vo:Nat}{u:T3}{r:Int}(hv:∀g,Below w.heap.size w g->g.cell? ⟨vb,vo,none⟩=some (.int .i64 u.1)/\g.cell? ⟨vb,vo+1,none⟩=some (.int .i64 u.2.1)/\g.cell? ⟨vb,vo+2,none⟩=some (.string u.2.2)/\vb<g.heap.size)(a:∀g,Below w.heap.size w g->Calls prog 14 #[.pointer (some ⟨d,0,none⟩),.string tb] g fun e w'=>e=.returned (.pointer (some ⟨pt,0,none⟩))/\w'=g)(b:∀g,Below w.heap.size w g->Calls prog 60 #[.pointer (some ⟨pt,0,none⟩),.int .i64 id,.string col,.agg #[.int .i64 u.1,.int .i64 u.2.1,.string u.2.2]] g fun e w'=>e=.returned (.int .i64 r)/\Q w'):Calls prog 160 #[.pointer (some ⟨d,0,none⟩),.agg #[.int .i64 3,.string tb,.int .i64 id,.string col,.slice (some ⟨vb,vo,none⟩) 1 c]] w fun e w'=>e=.returned (.tuple #[.int .i64 0,.int .i64 r])/\Q w':=by
 have k:=aD w (.cells #[.int .i64 3,.string tb,.int .i64 id,.string col,.slice (some ⟨vb,vo,none⟩) 1 c] 73);have i:=z7 w (.cells #[.int .i64 3,.string tb,.int .i64 id,.string col,.slice (some ⟨vb,vo,none⟩) 1 c] 73);obtain⟨g,l⟩:=ae (w.alloc (.cells #[.int .i64 3,.string tb,.int .i64 id,.string col,.slice (some ⟨vb,vo,none⟩) 1 c] 73));obtain⟨B,s⟩:=ae w.heap.size;rw[l]at k i;rw[s]at i;have f:=dJ 3 id tb col (some ⟨vb,vo,none⟩) 1 c g;rw[show fh 3 1=true from rfl]at f;have A:=aA i 0;have E:=aA i 1;have F:=aA i 2;have G:=aA i 3;have H:=aA i 4;have I:=aB i;have p:=aa (ab l (ab s (ab k i)));have t:=aa (ab a (ab b hv));clear l k i s a b hv;go_enter func160,ntmps160;go_upto_region 1 with fail;rw[p.1,p.2.1]
 go_upto_region 10 with (first|(go_at_call 192;(with_reducible refine f.mono ?_);rintro e j⟨rfl,m⟩;have n:=aa (ab (aC p.2.2.1 m) (aE m p.2.2.2));have J:=aA n.2 0;have L:=aA n.2 1;have M:=aB n.2;have a:=t.1 j n.1;clear f m A E F G H I)|(go_at_call 14;(with_reducible refine a.mono ?_);rintro e N⟨rfl,q⟩;subst N;clear a))
 clear J L M;have o:Hid (∀w',Below j.heap.size j w'->w'.heap[B]?=some (.cells #[.int .i64 3,.string tb,.int .i64 id,.string col,.slice (some ⟨vb,vo,none⟩) 1 c] 73)):=aa (fun w' q=>aE q n.2);have v:Hid (∀w',Below j.heap.size j w'->_):=aa (fun w' q=>t.2.2 w' (aC n.1 q));have O:(0:Int)<1:=(by decide);refine Par.ag 9 [.pointer (some ⟨pt,0,none⟩),.pointer (some ⟨B,2,none⟩),.int .i64 id,.pointer (some ⟨B,3,none⟩),.string col,.pointer (some ⟨B,4,none⟩),.slice (some ⟨vb,vo,none⟩) 1 c,.pointer (some ⟨vb,vo,none⟩),.agg #[.int .i64 u.1,.int .i64 u.2.1,.string u.2.2]] (fun w=>Below j.heap.size j w) ?A1 ?hm1 ?hB1 ?hA1 (aG j) ?hop1 ?hT1
 case hm1=>kernel_rfl
 case hB1=>kernel_rfl
 case hA1 =>
  simp only[Par.am,Par.ai,Act.put,eh,ez,dz,eo,ew,ey,ed,ic,gy];rfl
 case hop1 =>
  simp only[en,zh,Par.ah,yo];and_intros<;>intro w' h<;>have P:=aa h
  rotate_left;have y:=aB (o.out w' h);rotate_left;have x:=aA (o.out w' h) 2;rotate_left;have y:=aB (o.out w' h);rotate_left;have x:=aA (o.out w' h) 3;rotate_left;have y:=aB (o.out w' h);rotate_left;have x:=aA (o.out w' h) 4;rotate_left 2;have x:=(v.out w' h).1;have U:=(v.out w' h).2.1;have R:=(v.out w' h).2.2.1;rotate_left
  all_goals(clear h;simp only[Par.Gives];go_simp;all_goals exact P.out)
 intro w' h;simp only[ex,ye];have b:=t.2.1 w' (aC n.1 h);clear h;go_wp2_with (go_at_call 60;refine b.mono ?_;rintro e V⟨rfl,z⟩;have S:=aa z;clear b z);go_ret2;exact⟨rfl,S.out⟩
end
section
variable{w:World}{b n c t:Nat}{id r1 r2:Int}{tb col:ByteArray}{p:Option Addr}{Q:World->Prop}{sv:Value}
end
section
variable{K:Nat->Prop}{W0 w:World}{d b m j:Nat}{ts:List T}{ps:List Nat}{L L1 L2:List PT}{S:Nat->Prop}{vv:Value}{o:jt}
theorem EH(hf:fh o.dO o.vals.length=true)(h:jz ts o.tbl<0):ru ts L1 o=(0,3):=by
 unfold ru;rw[zu (by rw[hf];decide)];split
 ·rw[zw h]
 rfl
theorem En(hf:fh o.dO o.vals.length=true)(h:jz ts o.tbl=(j:Int))(hj:j<ts.length)(hL:j<L1.length):ru ts L1 o=if o.dO=1 then(li ts[j] L1[j] o.vals,ei ts[j] o.vals)else if o.dO=2 then(0,if di L1[j].2 o.id=true then 0 else 6)else(0,pu ts[j] L1[j].2 o.id o.col (o.vals.getD 0 z3)):=by
 unfold ru;rw[zu (by rw[hf];decide),h];simp only[wo,z6 hj,z6 hL];rw[zu (by omega)]
theorem nY{k:Int}{n:Nat}(h:fh k n=true):k=1∨k=2∨(k=3/\n=1):=by
 unfold fh at h;split at h
 ·rename_i a;rcases a with a|a
  ·exact .inl a
  exact .inr (.inl a)
 split at h
 ·rename_i b;exact .inr (.inr ⟨b,wf h⟩)
 cases h
theorem Dx(hv:fk S w vv o.vals)(h1:o.vals.length=1):∃a b c,vv=.slice (some ⟨a,b,none⟩) 1 c/\∀d,Below w.heap.size w d->d.cell? ⟨a,b,none⟩=some (.int .i64 (o.vals.getD 0 z3).1)/\d.cell? ⟨a,b+1,none⟩=some (.int .i64 (o.vals.getD 0 z3).2.1)/\d.cell? ⟨a,b+2,none⟩=some (.string (o.vals.getD 0 z3).2.2)/\a<d.heap.size:=by
 obtain⟨p,c,rfl,_,_⟩:=hv.slice;obtain⟨a,b,rfl,_,_⟩:=fk.val hv (j:=0) (by omega);have f:o.vals[0]'(by omega)=o.vals.getD 0 z3:=(by rw[zv,z6 (by omega)];rfl);refine⟨a,b,c,by rw[h1],fun d k=>?_⟩;obtain⟨m,n,e,l,g,h,i⟩:=fk.val (hv.later k) (j:=0) (by omega);cases e;rw[f]at g h i;exact⟨g,h,i,l⟩
theorem GQ(h:PX (DA d ts ps) K W0 w L1)(hfew:bs ts)(hsz:Short ts)(hcs:∀t∈ts,0<t.cols.length/\t.cols.length<=1000)(hsm:∀x∈L1,ie m x)(hm:m<=590)(hok:nh o)(hv:fk S w vv o.vals)(hS:∀q,S q->K q):Calls prog 160 #[.pointer (some ⟨d,0,none⟩),.agg #[.int .i64 o.dO,.string o.tbl,.int .i64 o.id,.string o.col,vv]] w fun e w'=>e=.returned (.tuple #[.int .i64 (ru ts L1 o).1,.int .i64 (ru ts L1 o).2])/\PX (DA d ts ps) K W0 w' (t7 ts L1 o):=by
 cases l:fh o.dO o.vals.length with
 | false=>exact tS h hv l
 | true =>
  rcases bW ts o.tbl with ⟨s,E,_⟩ | ⟨t,g,s,E,G⟩
  ·rw[EH l (by rw[s];decide)];unfold t7;rw[zw l,EB (by rw[s];decide)];obtain⟨p,c,rfl,_,_⟩:=hv.slice;refine Dv (Q:=fun w'=>PX (DA d ts ps) K W0 w' L1) l (fun j i=>?_);have a:=h.later i;have y:=a;obtain⟨_,O,⟨L,H,_⟩,_⟩:=y;exact(H.notable hfew hok.tbl E).mono (fun e w'⟨I,J⟩=>⟨I,a.later J⟩)
  ·have v:t<ps.length:=(by rw[h.A0.1];exact g);have r:t<L1.length:=(by rw[h.A0.2];exact g);have z:ts[t].nm=o.tbl:=gQ G
   have b:∀j,Below w.heap.size w j->Calls prog 14 #[.pointer (some ⟨d,0,none⟩),.string o.tbl] j fun e w'=>e=.returned (.pointer (some ⟨ps[t],0,none⟩))/\w'=j:=fun j i=>by
    have:=(h.later i).table g (hsz _ (z8 g)) v
    rw[z]at this;exact this
   rw[En l s g r];unfold t7;rw[zw l,nE s g r];have u:=hcs _ (z8 g);have n:=hsm _ (z8 r);rcases nY l with a|a|⟨a,F⟩
   ·rw[zw a,zw a,a];obtain⟨p,c,rfl,_,_⟩:=hv.slice;exact Gc (Q:=fun w'=>PX (DA d ts ps) K W0 w' _) b (fun j i=>(h.later i).BL g v r (hv.later i) hS n hm u.2 hok.vals (by have:=hok.few;omega))
   ·have f:¬ o.dO=1:=(by omega);rw[zu f,zu f,zw a,zw a,a];obtain⟨p,c,rfl,_,_⟩:=hv.slice;exact FK (Q:=fun w'=>PX (DA d ts ps) K W0 w' _) b (fun j i=>(h.later i).Bz g v r hok.id n hm u.2)
   ·have f:¬ o.dO=1:=(by omega);have k:¬ o.dO=2:=(by omega);rw[zu f,zu f,zu k,zu k,zw F,a];obtain⟨M,N,c,rfl,A⟩:=Dx hv F
    have B:(o.vals.getD 0 z3).2.2.size<=maxLen:=by
     rw[zv,z6 (by omega)];exact hok.vals _ (z8 _)
    exact C4 (Q:=fun w'=>PX (DA d ts ps) K W0 w' _) A b (fun j i=>(h.later i).ph g v r hok.id o.col _ B n hm)
theorem wM(h:∀x∈L,ie m x):∀x∈t7 ts L o,ie (m+1) x:=by
 unfold t7;split
 ·exact tM h
 exact fun x a=>(h x a).mono (by omega)
end
structure Out where
 rows:List PT
 ids:List Int
 err:Int
 place:Int
 tbl:ByteArray
def nk(ts:List T):List PT->Nat->List Int->List jt->Out
 | L,_,ids,[]=>⟨L,ids,0,0,e0⟩
 | L,k,ids,o::l=>if (ru ts L o).2=0 then nk ts (t7 ts L o) (k+1) (if o.dO=1 then ids++[(ru ts L o).1]else ids) l else⟨t7 ts L o,[],(ru ts L o).2,(k:Int),o.tbl⟩
def ap(ts:List T)(L:List PT)(l:List jt):Out:=if l.length=0∨40<l.length then⟨L,[],5,0,e0⟩else nk ts L 0 [] l
section
variable{ts:List T}{L:List PT}{l:List jt}{ids:List Int}{k j m:Nat}
theorem EM(hj:j<l.length)(h:(ru ts L l[j]).2=0):nk ts L k ids (l.drop j)=nk ts (t7 ts L l[j]) (k+1) (if l[j].dO=1 then ids++[(ru ts L l[j]).1]else ids) (l.drop (j+1)):=by
 rw[vh hj,nk,zw h]
theorem Gi(hj:j<l.length)(h:(ru ts L l[j]).2≠0):nk ts L k ids (l.drop j)=⟨t7 ts L l[j],[],(ru ts L l[j]).2,(k:Int),l[j].tbl⟩:=by
 rw[vh hj,nk,zu h]
theorem DL(hj:l.length<=j):nk ts L k ids (l.drop j)=⟨L,ids,0,0,e0⟩:=by
 rw[List.drop_of_length_le hj,nk]
theorem yQ:∀{l:List jt} {L:List PT} {k m:Nat} {ids:List Int},(∀x∈L,ie m x)->∀x∈(nk ts L k ids l).rows,ie (m+l.length) x
 | [],L,k,m,ids,h=>by rw[nk];exact h
 | o::l,L,k,m,ids,h=>by
  rw[nk];split
  ·intro x a
   have:=yQ (wM (ts:=ts) (o:=o) h) x a
   rw[xa];exact this.mono (by omega)
  ·intro x a
   have:=wM (ts:=ts) (o:=o) h x a
   rw[xa];exact this.mono (by omega)
theorem E0(h:∀x∈L,ie m x):∀x∈(ap ts L l).rows,ie (m+l.length) x:=by
 unfold ap;split
 ·exact fun x a=>(h x a).mono (by omega)
 exact yQ h
end
section
variable{D:World->List PT->(Nat->Nat)->Prop}{K Kx:Nat->Prop}{W0 wx w w':World}{d b R:Nat}{ts:List T}{ps:List Nat}{L1 L2:List PT}{S:Nat->Prop}{ids:List Int}{idv:Value}
structure kw (K:Nat->Prop) (W0:World) (tv:Value) (L:List jt):Prop where
 sl:∃p cap,tv=.slice p L.length cap
 rd:∀j (hj:j<L.length),∃g o cap vv,tv=.slice (some ⟨g,o,none⟩) L.length cap/\∀w:World,(∀q,K q->w.heap[q]?=W0.heap[q]?) ->
   (w.cell? ⟨g,o+j*5,none⟩=some (.int .i64 L[j].dO)/\w.cell? ⟨g,o+j*5+1,none⟩=some (.string L[j].tbl)/\w.cell? ⟨g,o+j*5+2,none⟩=some (.int .i64 L[j].id)/\w.cell? ⟨g,o+j*5+3,none⟩=some (.string L[j].col)/\w.cell? ⟨g,o+j*5+4,none⟩=some vv/\g<w.heap.size)/\fk K w vv L[j].vals
theorem kw.of{base:Nat}{tv:Value}{L:List jt}(ho:qv W0 base tv L)(hK:∀q,base<=q->q<W0.heap.size->K q):kw K W0 tv L:=by
 refine⟨?_,fun j d=>?_⟩
 ·obtain⟨sv,_,f,_⟩:=ho;obtain⟨p,a,e,_,_⟩:=f.isslice;exact⟨p,a,e⟩
 obtain⟨g,a,vv,e,b⟩:=tN ho hK d;exact⟨g,0,a,vv,e,fun w c=>by rw[xj];exact⟨(b w c).1,(b w c).2.2⟩⟩
theorem kw.move{tv:Value}{L:List jt}(h:kw K W0 tv L)(hk:∀q,K q->Kx q)(hw:∀q,K q->wx.heap[q]?=W0.heap[q]?):kw Kx wx tv L:=by
 refine⟨h.sl,fun j c=>?_⟩;obtain⟨g,o,b,vv,e,d⟩:=h.rd j c;refine⟨g,o,b,vv,e,fun w f=>?_⟩;obtain⟨i,k⟩:=d w (fun q a=>(f q (hk q a)).trans (hw q a));exact⟨i,k.mono (fun q _ a=>hk q a)⟩
theorem kw.part{p:Option Addr}{n cap c2:Nat}{L:List jt}(h:kw K W0 (.slice p n cap) L)(i k:Nat)(hik:i+k<=L.length):kw K W0 (.slice (p.map fun a=>⟨a.block,a.off+i*5,none⟩) k c2) ((L.drop i).take k):=by
 have c:((L.drop i).take k).length=k:=(by rw[xq,vt];omega);refine⟨⟨_,c2,by rw[c]⟩,fun j r=>?_⟩;have b:i+j<L.length:=(by omega);obtain⟨g,o,d,vv,e,l⟩:=h.rd (i+j) b;cases e;have m:((L.drop i).take k)[j]=L[i+j]:=(by rw[List.getElem_take,List.getElem_drop]);rw[m];refine⟨g,o+i*5,c2,vv,by rw[c];rfl,fun w q=>?_⟩;have f:=l w q;rw[show o+(i+j)*5=o+i*5+j*5 by omega]at f;exact f
structure t' (D:World->List PT->(Nat->Nat)->Prop) (K:Nat->Prop) (W0:World) (R:Nat) (ids:List Int) (idv:Value) (Kx:Nat->Prop) (wx:World):Prop where
 kk:∀q,K q->Kx q
 kr:Kx R
 r:wx.heap[R]?=some (.cells zF 173)
 row:Ro wx (R+1) idv ids
 kb:∀q,idv.ownBlock=some q->Kx q
 back:∀w2 X,PX D Kx wx w2 X->PX D K W0 w2 X
 lo:W0.heap.size<=R
theorem t'.next(h:t' D K W0 R ids idv Kx wx)(hP:PX D Kx wx w L1)(hb:Below w.heap.size w w'):t' D K W0 R ids idv (fun q=>Kx q∨(w.heap.size<=q/\q<w'.heap.size)) w'/\PX D (fun q=>Kx q∨(w.heap.size<=q/\q<w'.heap.size)) w' w' L1:=by
 have b:=(hP.still h.kr).trans h.r;exact⟨⟨fun q a=>.inl (h.kk q a),.inl h.kr,aE hb b,(h.row.of (fun q a=>hP.still (h.kb q a))).later hb,fun q a=>.inl (h.kb q a),fun d X c=>h.back _ _ ((hP.later hb).back c (fun q a=>.inl a)),h.lo⟩,hP.with hb⟩
theorem t'.app(h:t' D K W0 R ids idv Kx wx)(hP:PX D Kx wx w L1){ids':List Int}{v':Value}(hr:Ro w' (R+1) v' ids')(hg:w.grownBy w' idv.ownBlock)(ho:∀q,v'.ownBlock=some q->idv.ownBlock=some q∨w.heap.size<=q):∃b,t' D K W0 R ids' v' b w'/\PX D b w' w' L1:=by
 have c:=h.row.of (w':=w) (fun q a=>hP.still (h.kb q a))
 have hT:Tn (fun q=>idv.ownBlock=some q) w w':=Tn.bt ⟨hg.os,hg.tape,hg.output,hg.size,fun q a k=>hg.block q a (fun e=>k e.symm)⟩ (fun q _ a=>by
  obtain⟨_,d,e⟩:=ac.block c q a;exact .inl ⟨d,3,e,rfl⟩)
 have l:=hP.with (zg _ w);obtain⟨m,n⟩:=l.Bs hT (fun q _ a=>.inl (h.kb q a));have f:idv.ownBlock≠some R:=(fun e=>by have:=(ac.lt h.row R e).1;omega);have g:=(hP.still h.kr).trans h.r;refine⟨_,⟨fun q a=>.inl (.inl (h.kk q a)),.inl (.inl h.kr),(hg.block R (aB g) (fun e=>f e.symm)).trans g,hr,fun q a=>?_,fun o X i=>?_,h.lo⟩,m⟩
 ·rcases ho q a with e|e
  ·exact .inl (.inl (h.kb q e))
  exact .inr ⟨e,(ac.lt hr q a).2⟩
 have j:=h.back _ _ hP;exact(j.back n (fun q a=>⟨.inl (h.kk q a),fun e=>by have p:=(ac.lt h.row q e).1;have i:=j.klt a;have s:=h.lo;omega⟩)).back i (fun q a=>.inl (.inl (h.kk q a)))
theorem t'.fin(h:t' D K W0 R ids idv Kx wx)(hP:PX D Kx wx w L1)(hg:w.grownBy w' (some R)):∃b,(∀q,K q->b q)/\Ro w' (R+1) idv ids/\(∀q,idv.ownBlock=some q->b q)/\PX D b w' w' L1/\PX D K W0 w' L1:=by
 have d:=(hP.still h.kr).trans h.r
 have hT:Tn (fun q=>q=R) w w':=Tn.bt ⟨hg.os,hg.tape,hg.output,hg.size,fun q a f=>hg.block q a (fun e=>f (by cases e;rfl))⟩ (fun q _ a=>by
  rw[a];exact .inl ⟨_,173,d,rfl⟩)
 have g:=hP.with (zg _ w);obtain⟨i,j⟩:=g.Bs hT (fun q _ a=>.inl (a▸h.kr));have c:=h.back _ _ hP;refine⟨_,fun q a=>.inl (.inl (h.kk q a)),(h.row.of (w':=w) (fun q a=>hP.still (h.kb q a))).of (fun q a=>?_),fun q a=>.inl (.inl (h.kb q a)),i,c.back j (fun q a=>⟨.inl (h.kk q a),fun e=>by have l:=c.klt a;have m:=h.lo;omega⟩)⟩;have k:=ac.lt (h.row.of (w':=w) (fun q a=>hP.still (h.kb q a))) q a;exact hg.block q k.2 (fun e=>by cases e;omega)
end
section
variable{W:World}{b:Nat}{ts:List T}{tt:List RT}{i:NI}{Ob:Nat->Nat}
end
