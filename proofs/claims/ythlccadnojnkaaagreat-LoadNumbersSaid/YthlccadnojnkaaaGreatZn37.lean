import Derived.Test.YthlccadnojnkaaaGreatZn36
set_option maxHeartbeats 8000000
set_option maxRecDepth 100000
namespace Go.Proofs.YthlccadnojnkaaaGreat
open Go.Proofs.Tryz
open Go Go.RowKit Go.Proofs Co Co.S
theorem xU{W:World}{d:Nat}{ts:List T}{st:List DT}{O:Nat->Nat}(h:Dd W d ts st O)(hi:mh ts)(hfew:di ts)(hsz:Short ts){v:Value}(x:ByteArray){id:Int}{p:List ByteArray}(hid:kj id)(hp:Wd W v p):Calls prog 99 #[.pointer (some ⟨d,0,none⟩),.string x,.int .i64 id,v] W fun e w'=>e=.returned (.tuple #[.agg #[.int .i64 ((ep ts (rowsOf st) x id p).1.1),.int .i64 ((ep ts (rowsOf st) x id p).1.2.1),.string ((ep ts (rowsOf st) x id p).1.2.2)],.bool (ep ts (rowsOf st) x id p).2])/\Below W.heap.size W w':=by
 by_cases a:(iz ts x p).2.2=0
 ·exact xT h hi hfew hsz hid hp a
 have e:ep ts (rowsOf st) x id p=(z3,false):=by
  unfold ep;rw[zq (fun h=>a h.1)]
 rw[e];obtain⟨mv,b⟩:=h.sp;exact FL (fun w c=>bF (h.later c).dlt) b hp a
section
variable {W w:World}{b:Nat}{ts:List T}{tt:List RT}{i:NI}{O:Nat->Nat}{t:T}{cv dv:Value}
end
theorem uC(fs:List (Value×Value))(ts:List T)(f:Value×Value)(t:T)(h:fs.length=ts.length):dx (fs++[f]) (ts++[t])=dx fs ts++[.string t.nm,f.1,.string t.key,f.2]:=by
 unfold dx;rw[List.zip_append h,List.flatMap_append]
 simp
def Al:RT:=⟨.slice none 0 0,0,[],[]⟩
theorem ls.nil{W:World}{t:T}{O:Nat->Nat}{j:Nat}:ls W t Al O j:=
 ⟨ac.nil,rfl,fun _ h=>absurd h (yo _),fun _ _ h=>absurd h (yo _),fun _ h=>(by cases h),List.Pairwise.nil,fun _ h=>(by cases h),fun _ h=>(by cases h),fun _ h=>absurd h (yo _)⟩
def sg(W:World)(O:Nat->Nat)(sv ov nv:Value)(q:Nat):Nat:=
 if q<W.heap.size then O q else if sv.ownBlock=some q then 2 else if ov.ownBlock=some q then 3 else if nv.ownBlock=some q then 4 else 0
section
variable {W W':World}{b:Nat}{ts:List T}{tt:List RT}{i:NI}{O:Nat->Nat}{t:T}{sv ov nv c d:Value}
theorem ew.addtab(h:ew W b ts tt i O)(hbox:W'.heap[b]?=some (.cells #[sv,ov,nv] 71))(hk:Tn (fun q=>O q≠0/\O q<=4) W W')(hform:ac W' 0 77 4 sv (ts.length+1) (dx i.fs ts++[.string t.nm,c,.string t.key,d]))(hrd:ey W' c d t)(hout:ac W' 0 92 1 ov (ts.length+1) (tt.map (·.rv)++[.slice none 0 0]))(hnx:ac W' 0 3 1 nv (ts.length+1) (tt.map (fun x=>Value.int .i64 (x.nx:Int))++[.int .i64 0]))(h2:∀q,sv.ownBlock=some q->i.sv.ownBlock=some q∨W.heap.size<=q)(h3:∀q,ov.ownBlock=some q->i.ov.ownBlock=some q∨W.heap.size<=q)(h4:∀q,nv.ownBlock=some q->i.nv.ownBlock=some q∨W.heap.size<=q):ew W' b (ts++[t]) (tt++[Al]) ⟨sv,ov,nv,i.fs++[(c,d)]⟩ (sg W O sv ov nv)/\Ext W O (sg W O sv ov nv):=by
 have g:∀q,q<W.heap.size->sg W O sv ov nv q=O q:=(fun q f=>by unfold sg;rw[zv f]);have u:=aC h.box;have p:(ts++[t]).length=ts.length+1:=by simp
 have v:∀q,sv.ownBlock=some q->ov.ownBlock=some q->False:=fun q l k=>by
  obtain⟨_,_,s⟩:=hform.block q l;obtain⟨_,_,o⟩:=hout.block q k;rw[s]at o;cases o
 have w:∀q,sv.ownBlock=some q->nv.ownBlock=some q->False:=fun q l k=>by
  obtain⟨_,_,s⟩:=hform.block q l;obtain⟨_,_,o⟩:=hnx.block q k;rw[s]at o;cases o
 have y:∀q,ov.ownBlock=some q->nv.ownBlock=some q->False:=fun q l k=>by
  obtain⟨_,_,s⟩:=hout.block q l;obtain⟨_,_,o⟩:=hnx.block q k;rw[s]at o;cases o
 refine⟨⟨hbox,?_,?_,?_,fun j a e=>?_,?_,?_,fun j a e=>?_,(g b u).trans h.o1,fun q f=>?_,fun q f=>?_,fun q f=>?_,fun q f=>?_⟩,fun q f=>g q f⟩
 ·rw[y8,y8,h.n];rfl
 ·rw[y8,y8,h.fn];rfl
 ·rw[p,uC _ _ _ _ h.fn];exact hform
 ·by_cases r:j<ts.length
  ·have m:j<i.fs.length:=(by rw[h.fn];exact r);have l:(i.fs++[(c,d)])[j]=i.fs[j]:=xc m;have k:(ts++[t])[j]=ts[j]:=xc r;show ey W' (i.fs++[(c,d)])[j].1 (i.fs++[(c,d)])[j].2 (ts++[t])[j];rw[l,k];exact(h.rd j r m).kp hk.qu
  obtain rfl:j=ts.length:=by omega
  have l:(i.fs++[(c,d)])[ts.length]'e=(c,d):=by
   rw[vu (by rw[h.fn];exact zm _)];simp
  have k:(ts++[t])[ts.length]'a=t:=by
   rw[vu (zm _)];simp
  show ey W' (i.fs++[(c,d)])[ts.length].1 (i.fs++[(c,d)])[ts.length].2 (ts++[t])[ts.length];rw[l,k];exact hrd
 ·rw[p,uc];exact hout
 ·rw[p,uc];exact hnx
 ·by_cases r:j<ts.length
  ·have m:j<tt.length:=(by rw[h.n];exact r);have l:(tt++[Al])[j]=tt[j]:=xc m;have k:(ts++[t])[j]=ts[j]:=xc r;rw[l,k];exact(h.tab j r m).tn hk (fun q f=>by omega) g
  obtain rfl:j=ts.length:=by omega
  have l:(tt++[Al])[ts.length]'e=Al:=by
   rw[vu (by rw[h.n];exact zm _)];simp[h.n]
  rw[l];exact ls.nil
 ·rcases h2 q f with e|e
  ·exact(g q (ac.lt h.form q e).2).trans (h.o2 q e)
  unfold sg;rw[zq (Nat.not_lt.2 e),zv f]
 ·rcases h3 q f with e|e
  ·exact(g q (ac.lt h.outer q e).2).trans (h.o3 q e)
  unfold sg;rw[zq (Nat.not_lt.2 e),zq (fun k=>v q k f),zv f]
 ·rcases h4 q f with e|e
  ·exact(g q (ac.lt h.nxs q e).2).trans (h.o4 q e)
  unfold sg;rw[zq (Nat.not_lt.2 e),zq (fun k=>w q k f),zq (fun k=>y q k f),zv f]
 by_cases z:q<W.heap.size
 ·exact z9 z hk.size
 unfold sg at f;rw[zq z]at f;by_cases l:sv.ownBlock=some q
 ·exact(ac.lt hform q l).2
 rw[zq l]at f;by_cases k:ov.ownBlock=some q
 ·exact(ac.lt hout q k).2
 rw[zq k]at f;by_cases A:nv.ownBlock=some q
 ·exact(ac.lt hnx q A).2
 rw[zq A]at f;exact absurd rfl f
end
theorem Dy:(prog.info? 77).map (fun i=>(i.zero,i.size,i.bytes))=some (some (.agg #[.string e0,.slice none 0 0,.string e0,.slice none 0 0]),4,80):=by kernel_rfl
theorem DZ:(prog.info? 92).map (fun i=>(i.zero,i.size,i.bytes))=some (some (.slice none 0 0),1,24):=by kernel_rfl
theorem DC:(prog.info? 3).map (fun i=>(i.zero,i.size,i.bytes))=some (some (.int .i64 0),1,8):=by kernel_rfl
theorem rJ{t ty e:TypeId}{z:Value}{size bytes:Nat}(ht:prog.underlying t=some (.slice e))(hinf:(prog.info? e).map (fun i=>(i.zero,i.size,i.bytes))=some (some z,size,bytes))(hzs:z.cells.size=size)(hsz:0<size)(hby:bytes<=80)(w:World)(base:Nat){v:Value}{m:Nat}{xs:List Value}(hr:ac w base e size v m xs)(hm:m+1<=1000000)(hb:base<=w.heap.size)(g0:Nat)(cs:Array Value)(hh:w.heap[g0]?=some (.cells cs e))(hcs:cs.size=size)(h1:∀u∈cs.toList,u.oneCell'=true):∃g a w',(Builtin.append_ #[t,t] ty #[v,.slice (some ⟨g0,0,none⟩) 1 1]).run prog w=.ok (.slice (some ⟨g,0,none⟩) (m+1) a) w'/\ac w' base e size (.slice (some ⟨g,0,none⟩) (m+1) a) (m+1) (xs++cs.toList)/\w.grownBy w' v.ownBlock/\(v.ownBlock=some g∨w.heap.size<=g):=by
 obtain⟨k,c,d,f,h⟩:=info_parts hinf
 have b:(m+1)*bytes<=140737488355328:=by
  have:(m+1)*bytes<=1000000*80:=Nat.mul_le_mul hm hby
  omega
 obtain⟨g,a,w',j,l,n,o⟩:=aY (P:=prog) w base t ty e k z size bytes ht c d f h hzs hsz hr ⟨g0,0,none⟩ 1 1 cs.toList (by simpa using hcs)
  (by exact World.news_of_block hh) h1 (by decide) (by unfold maxLen;omega) b hb
 exact⟨g,a,w',j,l,n,o⟩
theorem ac.ma{w w':World}{base size n:Nat}{e:TypeId}{v:Value}{xs:List Value}(h:ac w base e size v n xs){o:Option Nat}(hg:w.grownBy w' o)(ho:∀k a,o=some k->w.heap[k]?≠some (.cells a e)):ac w' base e size v n xs:=
 h.of (fun k c=>by
  obtain⟨_,a,b⟩:=h.block k c;exact hg.block k (aC b) (fun d=>ho k a d.symm b))
structure FJ (W0:World) (E:Nat->Value) (rv:Value) (n:Nat) (xs:List Value) (nm key:ByteArray) (nc:Nat) (dv:Value) (t:T) (l:Nat->Bool) (vs:Nat->Value) (w:World):Prop where
 gb:W0.grownBy w rv.ownBlock
 f0:l 8=false->Below W0.heap.size W0 w
 ev:∀j,j<6∨j=9∨j=10->l j=true->vs j=E j
 f6:l 6=true->l 8=false->∃p1 c1,vs 6=.agg #[.string nm,.slice p1 nc c1,.string key,dv]/\ey w (.slice p1 nc c1) dv t
 f7:l 7=true->l 8=false->∃p1 c1 g0,vs 6=.agg #[.string nm,.slice p1 nc c1,.string key,dv]/\ey w (.slice p1 nc c1) dv t/\vs 7=.slice (some ⟨g0,0,none⟩) 1 1/\w.heap[g0]?=some (.cells #[.string nm,.slice p1 nc c1,.string key,dv] 77)
 f8:l 8=true->∃g cap p1 c1,vs 8=.slice (some ⟨g,0,none⟩) (n+1) cap/\ac w 0 77 4 (.slice (some ⟨g,0,none⟩) (n+1) cap) (n+1) (xs++[.string nm,.slice p1 nc c1,.string key,dv])/\(rv.ownBlock=some g∨W0.heap.size<=g)/\ey w (.slice p1 nc c1) dv t
section
open Par
variable {W0 w w':World}{E:Nat->Value}{rv:Value}{n:Nat}{xs:List Value}{nm key:ByteArray}{nc:Nat}{dv:Value}{t:T}{l:Nat->Bool}{vs:Nat->Value}
theorem FJ.up(h:FJ W0 E rv n xs nm key nc dv t l vs w)(i:Nat)(hi:i<6∨i=9∨i=10):FJ W0 E rv n xs nm key nc dv t (fq l i) (fk vs i (E i)) w:=by
 have k:∀j,j=6∨j=7∨j=8->fq l i j=l j/\fk vs i (E i) j=vs j:=(fun j f=>⟨aI (by omega),aJ (by omega)⟩);obtain⟨m,g⟩:=k 6 (by simp);obtain⟨o,p⟩:=k 7 (by simp);obtain⟨d,q⟩:=k 8 (by simp);refine⟨h.gb,fun a=>h.f0 (d▸a),fun j f a=>?_,fun b c=>?_,fun b c=>?_,fun a=>?_⟩
 ·by_cases e:j=i
  ·subst e;rw[aS]
  rw[aJ e];rw[aI e]at a;exact h.ev j f a
 ·rw[m]at b;rw[d]at c;rw[g];exact h.f6 b c
 ·rw[o]at b;rw[d]at c;rw[g,p];exact h.f7 b c
 rw[d]at a;rw[q];exact h.f8 a
theorem FJ.s6(h:FJ W0 E rv n xs nm key nc dv t l vs w)(h7:l 7=false)(h8:l 8=false){p1:Option Addr}{c1:Nat}(hr:ey w' (.slice p1 nc c1) dv t)(hb:Below w.heap.size w w'):FJ W0 E rv n xs nm key nc dv t (fq l 6) (fk vs 6 (.agg #[.string nm,.slice p1 nc c1,.string key,dv])) w':=by
 have b:=aB (h.f0 h8) hb;refine⟨cZ b,fun _=>b,fun j c a=>?_,fun _ _=>⟨p1,c1,aS,hr⟩,fun a _=>?_,fun a=>?_⟩
 ·rw[aJ (by omega)];rw[aI (by omega)]at a;exact h.ev j c a
 ·rw[aI (by decide),h7]at a;cases a
 rw[aI (by decide),h8]at a;cases a
theorem FJ.s7(h:FJ W0 E rv n xs nm key nc dv t l vs w)(h8:l 8=false){p1:Option Addr}{c1:Nat}(e6:vs 6=.agg #[.string nm,.slice p1 nc c1,.string key,dv])(hr:ey w (.slice p1 nc c1) dv t):FJ W0 E rv n xs nm key nc dv t (fq l 7) (fk vs 7 (.slice (some ⟨w.heap.size,0,none⟩) 1 1)) (w.alloc (.cells #[.string nm,.slice p1 nc c1,.string key,dv] 77)):=by
 have a:=aD w (.cells #[.string nm,.slice p1 nc c1,.string key,dv] 77);have b:=aB (h.f0 h8) a;have c:=hr.kp (Tn.of_below (S:=fun _=>False) a).qu;refine⟨cZ b,fun _=>b,fun j e d=>?_,fun _ _=>⟨p1,c1,by rw[aJ (by decide)];exact e6,c⟩,fun _ _=>⟨p1,c1,_,by rw[aJ (by decide)];exact e6,c,aS,z7 w _⟩,fun d=>?_⟩
 ·rw[aJ (by omega)];rw[aI (by omega)]at d;exact h.ev j e d
 rw[aI (by decide),h8]at d;cases d
theorem DD{o:Option Nat}(hg:w.grownBy w' o)(ho:∀q,o=some q->∃a,w.heap[q]?=some (.cells a 77)):Tn (fun q=>o=some q) w w':=
 Tn.bq ⟨hg.os,hg.tape,hg.output,hg.size,fun q b c=>hg.block q b (fun e=>c e.symm)⟩ (fun q _ b=>by
  obtain⟨a,e⟩:=ho q b;exact .inl ⟨a,77,e,rfl⟩)
theorem FJ.s8(h:FJ W0 E rv n xs nm key nc dv t l vs w)(h8:l 8=false){p1:Option Addr}{c1:Nat}(hr:ey w (.slice p1 nc c1) dv t)(hW:ac W0 0 77 4 rv n xs){g cap:Nat}{v:Value}(hv:v=.slice (some ⟨g,0,none⟩) (n+1) cap)(hr2:ac w' 0 77 4 (.slice (some ⟨g,0,none⟩) (n+1) cap) (n+1) (xs++[.string nm,.slice p1 nc c1,.string key,dv]))(hg:w.grownBy w' rv.ownBlock)(ho:rv.ownBlock=some g∨w.heap.size<=g):FJ W0 E rv n xs nm key nc dv t (fq l 8) (fk vs 8 v) w':=by
 have b:=h.f0 h8;have d:W0.grownBy w' rv.ownBlock:=⟨hg.os.trans b.os,hg.tape.trans b.tape,hg.output.trans b.output,zw b.size hg.size,fun q c k=>(hg.block q (z9 c b.size) k).trans (b.block q c)⟩
 have f:=DD hg (fun q c=>by
  obtain⟨_,i,e⟩:=(hW.later b).block q c;exact⟨i,e⟩)
 refine⟨d,fun a=>?_,fun j m a=>?_,fun _ a=>?_,fun _ a=>?_,fun _=>⟨g,cap,p1,c1,aS.trans hv,hr2,ho.imp (fun h=>h) (fun h=>zw b.size h),hr.kp f.qu⟩⟩
 ·rw[bW]at a;cases a
 ·rw[aJ (by omega)];rw[aI (by omega)]at a;exact h.ev j m a
 ·rw[bW]at a;cases a
 rw[bW]at a;cases a
end
structure AJ (W0:World) (E:Nat->Value) (b:Nat) (sv ov nv:Value) (n:Nat) (xs ys:List Value) (l:Nat->Bool) (vs:Nat->Value) (w:World):Prop where
 tn:Tn (fun q=>q=b∨ov.ownBlock=some q∨nv.ownBlock=some q) W0 w
 ev:∀j,j<17->j≠6->j≠7->j≠12->j≠13->j≠16->l j=true->vs j=E j
 box:w.heap[b]?=some (.cells #[sv,(if l 16=true then vs 7 else ov),nv] 71)
 r7:l 7=false->ac w 0 92 1 ov n xs
 ru:l 13=false->ac w 0 3 1 nv n ys
 f6:l 6=true->l 7=false->∃g0,vs 6=.slice (some ⟨g0,0,none⟩) 1 1/\w.heap[g0]?=some (.cells #[.slice none 0 0] 92)/\W0.heap.size<=g0
 f12:l 12=true->l 13=false->∃g0,vs 12=.slice (some ⟨g0,0,none⟩) 1 1/\w.heap[g0]?=some (.cells #[.int .i64 0] 3)/\W0.heap.size<=g0
 f7:l 7=true->∃g cap,vs 7=.slice (some ⟨g,0,none⟩) (n+1) cap/\ac w 0 92 1 (.slice (some ⟨g,0,none⟩) (n+1) cap) (n+1) (xs++[.slice none 0 0])/\(ov.ownBlock=some g∨W0.heap.size<=g)
 f13:l 13=true->∃g cap,vs 13=.slice (some ⟨g,0,none⟩) (n+1) cap/\ac w 0 3 1 (.slice (some ⟨g,0,none⟩) (n+1) cap) (n+1) (ys++[.int .i64 0])/\(nv.ownBlock=some g∨W0.heap.size<=g)
section
open Par
variable {W0 w w':World}{E:Nat->Value}{b:Nat}{sv ov nv:Value}{n:Nat}{xs ys:List Value}{l:Nat->Bool}{vs:Nat->Value}
theorem AJ.up(h:AJ W0 E b sv ov nv n xs ys l vs w)(i:Nat)(hi:i<17/\i≠6/\i≠7/\i≠12/\i≠13/\i≠16):AJ W0 E b sv ov nv n xs ys (fq l i) (fk vs i (E i)) w:=by
 have k:∀j,j=6∨j=7∨j=12∨j=13∨j=16->fq l i j=l j/\fk vs i (E i) j=vs j:=(fun j o=>⟨aI (by omega),aJ (by omega)⟩);obtain⟨r,s⟩:=k 6 (by simp);obtain⟨c,p⟩:=k 7 (by simp);obtain⟨d,f⟩:=k 12 (by simp);obtain⟨a,g⟩:=k 13 (by simp);obtain⟨m,t⟩:=k 16 (by simp);refine⟨h.tn,fun j o u v x y z q=>?_,by rw[m,p];exact h.box,by rw[c];exact h.r7,by rw[a];exact h.ru,by rw[r,c,s];exact h.f6,by rw[d,a,f];exact h.f12,by rw[c,p];exact h.f7,by rw[a,g];exact h.f13⟩;by_cases e:j=i
 ·subst e;rw[aS]
 rw[aJ e];rw[aI e]at q;exact h.ev j o u v x y z q
theorem AJ.s6(h:AJ W0 E b sv ov nv n xs ys l vs w)(h7:l 7=false):AJ W0 E b sv ov nv n xs ys (fq l 6) (fk vs 6 (.slice (some ⟨w.heap.size,0,none⟩) 1 1)) (w.alloc (.cells #[.slice none 0 0] 92)):=by
 have c:=aD w (.cells #[.slice none 0 0] 92);have u:∀j,j≠6->fq l 6 j=l j/\fk vs 6 (.slice (some ⟨w.heap.size,0,none⟩) 1 1) j=vs j:=(fun j d=>⟨aI d,aJ d⟩);refine⟨h.tn.trans (Tn.of_below (S:=fun _=>False) c) (fun _ _ h=>h) (fun _ _ h=>h.elim),fun j d e q r s t a=>?_,?_,fun a=>?_,fun a=>?_,fun _ _=>⟨_,aS,z7 w _,h.tn.size⟩,fun o p=>?_,fun a=>?_,fun a=>?_⟩
 ·rw[(u j e).2];rw[(u j e).1]at a;exact h.ev j d e q r s t a
 ·rw[(u 16 (by decide)).1,(u 7 (by decide)).2];exact aE c h.box
 ·rw[(u 7 (by decide)).1]at a;exact(h.r7 a).later c
 ·rw[(u 13 (by decide)).1]at a;exact(h.ru a).later c
 ·rw[(u 12 (by decide)).1]at o;rw[(u 13 (by decide)).1]at p;rw[(u 12 (by decide)).2]
  obtain⟨v,f,i,k⟩:=h.f12 o p;exact⟨v,f,aE c i,k⟩
 ·rw[(u 7 (by decide)).1,h7]at a;cases a
 rw[(u 13 (by decide)).1]at a;rw[(u 13 (by decide)).2]
 obtain⟨g,m,f,i,k⟩:=h.f13 a;exact⟨g,m,f,i.later c,k⟩
theorem AJ.s12(h:AJ W0 E b sv ov nv n xs ys l vs w)(h13:l 13=false):AJ W0 E b sv ov nv n xs ys (fq l 12) (fk vs 12 (.slice (some ⟨w.heap.size,0,none⟩) 1 1)) (w.alloc (.cells #[.int .i64 0] 3)):=by
 have c:=aD w (.cells #[.int .i64 0] 3);have u:∀j,j≠12->fq l 12 j=l j/\fk vs 12 (.slice (some ⟨w.heap.size,0,none⟩) 1 1) j=vs j:=(fun j d=>⟨aI d,aJ d⟩);refine⟨h.tn.trans (Tn.of_below (S:=fun _=>False) c) (fun _ _ h=>h) (fun _ _ h=>h.elim),fun j d q r e s t a=>?_,?_,fun a=>?_,fun a=>?_,fun o p=>?_,fun _ _=>⟨_,aS,z7 w _,h.tn.size⟩,fun a=>?_,fun a=>?_⟩
 ·rw[(u j e).2];rw[(u j e).1]at a;exact h.ev j d q r e s t a
 ·rw[(u 16 (by decide)).1,(u 7 (by decide)).2];exact aE c h.box
 ·rw[(u 7 (by decide)).1]at a;exact(h.r7 a).later c
 ·rw[(u 13 (by decide)).1]at a;exact(h.ru a).later c
 ·rw[(u 6 (by decide)).1]at o;rw[(u 7 (by decide)).1]at p;rw[(u 6 (by decide)).2]
  obtain⟨v,f,i,k⟩:=h.f6 o p;exact⟨v,f,aE c i,k⟩
 ·rw[(u 7 (by decide)).1]at a;rw[(u 7 (by decide)).2]
  obtain⟨g,m,f,i,k⟩:=h.f7 a;exact⟨g,m,f,i.later c,k⟩
 rw[(u 13 (by decide)).1,h13]at a;cases a
theorem Eh{base size m:Nat}{e:TypeId}{v:Value}{zs:List Value}(hr:ac w base e size v m zs)(he:BY e=true)(hg:w.grownBy w' v.ownBlock):Tn (fun q=>v.ownBlock=some q) w w':=
 Tn.bq ⟨hg.os,hg.tape,hg.output,hg.size,fun q a d=>hg.block q a (fun b=>d b.symm)⟩ (fun q _ a=>by
  obtain⟨_,c,b⟩:=hr.block q a;exact .inl ⟨c,e,b,he⟩)
theorem AJ.s7(h:AJ W0 E b sv ov nv n xs ys l vs w)(h7:l 7=false)(h13:l 13=false)(h16:l 16=false){v:Value}{g cap:Nat}(hv:v=.slice (some ⟨g,0,none⟩) (n+1) cap)(hr:ac w' 0 92 1 (.slice (some ⟨g,0,none⟩) (n+1) cap) (n+1) (xs++[.slice none 0 0]))(hg:w.grownBy w' ov.ownBlock)(ho:ov.ownBlock=some g∨w.heap.size<=g):AJ W0 E b sv ov nv n xs ys (fq l 7) (fk vs 7 v) w':=by
 have d:=h.r7 h7;have o:=Eh d rfl hg
 have no:∀(q:Nat) (c:Array Value) (e:TypeId),e≠92->w.heap[q]?=some (Obj.cells c e)->w'.heap[q]?=some (Obj.cells c e):=fun q c e z p=>by
  rw[hg.block q (aC p) (fun r=>?_)]
  ·exact p
  obtain⟨_,c2,f⟩:=d.block q r.symm;rw[p]at f;cases f;exact z rfl
 have u:∀j,j≠7->fq l 7 j=l j/\fk vs 7 v j=vs j:=(fun j m=>⟨aI m,aJ m⟩);refine⟨h.tn.trans o (fun _ _ h=>h) (fun _ _ h=>.inr (.inl h)),fun j m A s B F G a=>?_,?_,fun a=>?_,fun a=>?_,fun _ i=>?_,fun t i=>?_,fun _=>⟨g,cap,aS.trans hv,hr,ho.imp (fun h=>h) (fun i=>zw h.tn.size i)⟩,fun a=>?_⟩
 ·rw[(u j s).2];rw[(u j s).1]at a;exact h.ev j m A s B F G a
 ·rw[(u 16 (by decide)).1,h16];have x:=h.box;rw[h16]at x;exact no b _ 71 (by decide) x
 ·rw[bW]at a;cases a
 ·rw[(u 13 (by decide)).1]at a
  exact(h.ru a).ma hg (fun k c H r=>by
   obtain⟨_,c2,f⟩:=d.block k H;rw[r]at f;cases f)
 ·rw[bW]at i;cases i
 ·rw[(u 12 (by decide)).1]at t;rw[(u 13 (by decide)).1]at i;rw[(u 12 (by decide)).2]
  obtain⟨y,I,f,J⟩:=h.f12 t i;exact⟨y,I,no y _ 3 (by decide) f,J⟩
 rw[(u 13 (by decide)).1,h13]at a;cases a
theorem AJ.s13(h:AJ W0 E b sv ov nv n xs ys l vs w)(h7:l 7=true)(h13:l 13=false)(h16:l 16=false){v:Value}{g cap:Nat}(hv:v=.slice (some ⟨g,0,none⟩) (n+1) cap)(hr:ac w' 0 3 1 (.slice (some ⟨g,0,none⟩) (n+1) cap) (n+1) (ys++[.int .i64 0]))(hg:w.grownBy w' nv.ownBlock)(ho:nv.ownBlock=some g∨w.heap.size<=g):AJ W0 E b sv ov nv n xs ys (fq l 13) (fk vs 13 v) w':=by
 have c:=h.ru h13;have m:=Eh c rfl hg;have u:∀j,j≠13->fq l 13 j=l j/\fk vs 13 v j=vs j:=(fun j f=>⟨aI f,aJ f⟩);refine⟨h.tn.trans m (fun _ _ h=>h) (fun _ _ h=>.inr (.inr h)),fun j f q r s o t a=>?_,?_,fun a=>?_,fun a=>?_,fun _ d=>?_,fun _ d=>?_,fun a=>?_,fun _=>⟨g,cap,aS.trans hv,hr,ho.imp (fun h=>h) (fun d=>zw h.tn.size d)⟩⟩
 ·rw[(u j o).2];rw[(u j o).1]at a;exact h.ev j f q r s o t a
 ·rw[(u 16 (by decide)).1,h16];have i:=h.box;rw[h16]at i;rw[hg.block b (aC i) (fun p=>?_)]
  ·exact i
  obtain⟨_,c2,e⟩:=c.block b p.symm;rw[i]at e;cases e
 ·rw[(u 7 (by decide)).1,h7]at a;cases a
 ·rw[bW]at a;cases a
 ·rw[(u 7 (by decide)).1,h7]at d;cases d
 ·rw[bW]at d;cases d
 rw[(u 7 (by decide)).2];obtain⟨x,y,z,e,A⟩:=h.f7 h7
 exact⟨x,y,z,e.ma hg (fun k B F p=>by
  obtain⟨_,c2,e⟩:=c.block k F;rw[p]at e;cases e),A⟩
theorem AJ.s16(h:AJ W0 E b sv ov nv n xs ys l vs w)(h7:l 7=true)(h13:l 13=true)(h16:l 16=false)(v:Value):AJ W0 E b sv ov nv n xs ys (fq l 16) (fk vs 16 v) (w.setCell ⟨b,1,none⟩ (vs 7)):=by
 have o:=h.box;rw[h16]at o;have d:=y9 w b 1 _ 71 (vs 7) o;have f:∀q,q≠b->(w.setCell ⟨b,1,none⟩ (vs 7)).heap[q]?=w.heap[q]?:=(fun q g=>yd w ⟨b,1,none⟩ q (vs 7) g);have r:Tn (fun q=>q=b) w (w.setCell ⟨b,1,none⟩ (vs 7)):=Tn.bq ⟨rfl,rfl,rfl,xy (by simp),fun q _ B=>f q B⟩ (fun q _ g=>by have g:q=b:=g;subst g;exact .inl ⟨_,71,o,rfl⟩)
 have nb:∀{base size m:Nat} {e:TypeId} {v:Value} {zs:List Value},ac w base e size v m zs->e≠71->ac (w.setCell ⟨b,1,none⟩ (vs 7)) base e size v m zs:=fun A F=>A.of (fun k G=>f k (fun H=>by
  obtain⟨_,c2,c⟩:=A.block k G;rw[H,o]at c;cases c;exact F rfl))
 have u:∀j,j≠16->fq l 16 j=l j/\fk vs 16 v j=vs j:=(fun j p=>⟨aI p,aJ p⟩);refine⟨h.tn.trans r (fun _ _ h=>h) (fun _ _ h=>.inl h),fun j p I J L M s a=>?_,?_,fun a=>?_,fun a=>?_,fun _ i=>?_,fun _ i=>?_,fun a=>?_,fun a=>?_⟩
 ·rw[(u j s).2];rw[(u j s).1]at a;exact h.ev j p I J L M s a
 ·rw[bW,zv rfl,(u 7 (by decide)).2,d];rfl
 ·rw[(u 7 (by decide)).1,h7]at a;cases a
 ·rw[(u 13 (by decide)).1,h13]at a;cases a
 ·rw[(u 7 (by decide)).1,h7]at i;cases i
 ·rw[(u 13 (by decide)).1,h13]at i;cases i
 ·rw[(u 7 (by decide)).2];obtain⟨t,x,y,c,z⟩:=h.f7 h7;exact⟨t,x,y,nb c (by decide),z⟩
 rw[(u 13 (by decide)).2];obtain⟨t,x,y,c,z⟩:=h.f13 h13;exact⟨t,x,y,nb c (by decide),z⟩
end
theorem Da{w:World}{b k:Nat}{cs:Array Value}{v:Value}(hb:w.heap[b]?=some (.cells cs 71)):Tn (fun q=>q=b) w (w.setCell ⟨b,k,none⟩ v)/\(∀{base size m:Nat} {e:TypeId} {u:Value} {zs:List Value},ac w base e size u m zs->e≠71->ac (w.setCell ⟨b,k,none⟩ v) base e size u m zs):=by
 have a:∀q,q≠b->(w.setCell ⟨b,k,none⟩ v).heap[q]?=w.heap[q]?:=fun q c=>yd w ⟨b,k,none⟩ q v c
 refine⟨Tn.bq ⟨rfl,rfl,rfl,xy (by simp),fun q _ g=>a q g⟩ (fun q _ c=>by have c:q=b:=c;subst c;exact .inl ⟨_,71,hb,rfl⟩),fun d h=>d.of (fun k i=>a k (fun j=>by
  obtain⟨_,c2,f⟩:=d.block k i;rw[j,hb]at f;cases f;exact h rfl))⟩
section
variable {W w:World}{b:Nat}{ts:List T}{tt:List RT}{i:NI}{O:Nat->Nat}{t:T}{cv dv:Value}
theorem Gr(h:ew W b ts tt i O)(hi:mh ts)(hT:ey W cv dv t)(hsm:xb t)(hyes:ea ts t=0)(h0:0<t.cols.length)(hc:t.cols.length<=1000)(h8:ts.length<=1000):Calls prog 35 #[.pointer (some ⟨b,0,none⟩),.agg #[.string t.nm,cv,.string t.key,dv]] W fun e w'=>e=.returned (.int .i64 0)/\∃i' O',ew w' b (ts++[bh t]) (tt++[Al]) i' O'/\Ext W O O'/\Tn (fun q=>O q≠0/\O q<=4) W w':=by
 obtain⟨pc,kc,rfl,_,_⟩:=hT.1.slice;obtain⟨pd,kd,rfl,_,_⟩:=hT.2.slice;obtain⟨nc,b4⟩:=ag t.cols.length;obtain⟨nd,b5⟩:=ag t.deps.length;obtain⟨nm,Q⟩:=ag t.nm;obtain⟨key,z⟩:=ag t.key;have R:=aD W (.cells #[.string nm,.slice pc nc kc,.string key,.slice pd nd kd] 77);have hV:=z7 W (.cells #[.string nm,.slice pc nc kc,.string key,.slice pd nd kd] 77);have b6:=hT.kp (Tn.of_below (S:=fun _=>False) R).qu;have h1:=h.later R;obtain⟨w1,c6⟩:=ag (W.alloc (.cells #[.string nm,.slice pc nc kc,.string key,.slice pd nd kd] 77));obtain⟨V,U⟩:=ag W.heap.size;rw[c6]at R hV b6 h1;rw[U]at hV;obtain⟨ps,cs,A,_,_⟩:=h1.form.isslice;obtain⟨po,co,X,_,_⟩:=h1.outer.isslice;obtain⟨pn,cn,Y,_,_⟩:=h1.nxs.isslice;have A:i.sv=.slice ps ts.length cs:=A;have X:i.ov=.slice po ts.length co:=X;have Y:i.nv=.slice pn ts.length cn:=Y;obtain⟨n,hn⟩:=ag ts.length;rw[hn]at A X Y
 have B:∀w,Below w1.heap.size w1 w->Calls prog 67 #[.slice ps n cs,.agg #[.string nm,.slice pc nc kc,.string key,.slice pd nd kd]] w fun e w'=>e=.returned (.int .i64 0)/\Below w.heap.size w w':=fun w hw=>by
  have:=Jp (b6.kp (Tn.of_below (S:=fun _=>False) hw).qu) (h1.later hw).ut hi hsm
  rw[Q,z,b4,b5,hyes,A]at this;exact this
 have b9:∀w,Below w1.heap.size w1 w->Calls prog 68 #[.agg #[.string nm,.slice pc nc kc,.string key,.slice pd nd kd]] w fun e w'=>∃p1 c1,e=.returned (.agg #[.string nm,.slice p1 nc c1,.string key,.slice pd nd kd])/\ey w' (.slice p1 nc c1) (.slice pd nd kd) (bh t)/\Below w.heap.size w w':=fun w hw=>by
  have:=pG (b6.kp (Tn.of_below (S:=fun _=>False) hw).qu) hc h0
  rw[Q,z,b4,b5]at this;exact this
 have Z:=h1.box;rw[A]at Z
 have g3:∀q,(Value.slice ps n cs).ownBlock=some q->q<V:=fun q s=>by
  rw[<-U];exact(ac.lt h.form q (A▸s)).2
 have g4:b<V:=(by rw[<-U];exact aC h.box);have HA:=aa B;have HF:=aa b9;have HV:=aa (ab hV (ab R (ab Z (ab g3 g4))));have HW:=aa (ab c6 U);have E:=aa (ab A (ab X (ab Y hn)));have H1:=aa h1;have HH:=aa h;have HN:=aa (ab Q z);have h2:=aa h8;rw[Q,z,b4,b5];clear h h1 hT b6 hsm hV R B b9 hyes c6 U Q z b4 b5 hi A X Y hn Z hc h0 h8 g3 g4;go_enter func35,ntmps35;go_upto_region 1 with fail;rw[HW.1,HW.2];refine Par.ae 5 [.pointer (some ⟨b,0,none⟩),.pointer (some ⟨b,0,none⟩),.pointer (some ⟨b,0,none⟩),.slice ps n cs,.agg #[.string nm,.slice pc nc kc,.string key,.slice pd nd kd]] (fun w=>Below w1.heap.size w1 w) ?A1 ?hm1 ?hB1 ?hA1 (aF w1) ?hop1 ?hT1
 case hm1=>kernel_rfl
 case hB1=>kernel_rfl
 case hA1 =>
  simp only[Par.am,Par.ai,Act.put,cy,db,bt,cp,dc,da,bu,eg,ed];rfl
 case hop1 =>
  simp only[ce,ze,Par.ah,yu];and_intros<;>intro w' N<;>have HR:=aa N
  rotate_left 2;have zl:=aC (aE N HV.2.2.1);rotate_left;have x0:=aA (aE N HV.2.2.1) 0;rotate_left;have x0:=aA (aE N HV.1) 0;have x1:=aA (aE N HV.1) 1;have x2:=aA (aE N HV.1) 2;have x3:=aA (aE N HV.1) 3;rotate_left
  all_goals(clear N;simp only[Par.Gives];go_simp;all_goals exact HR.out)
 intro w' N;simp only[cw,ym];have HR:=aa N;have B:=HA.out w' N;clear N;go_upto_region 4 with (go_at_call 67;(with_reducible refine B.mono ?_);rintro e w4⟨rfl,hD⟩;have H4:=aa (aB HR.out hD);clear B hD);have h4:=H1.out.later H4.out
 have HX:Hid (∀w,w4.grownBy w (Value.slice ps n cs).ownBlock->w.cell? ⟨b,0,none⟩=some (.slice ps n cs)/\b<w.heap.size/\w.heap[b]?=some (.cells #[.slice ps n cs,i.ov,i.nv] 71)/\w.cell? ⟨V,0,none⟩=some (.string nm)/\w.cell? ⟨V,1,none⟩=some (.slice pc nc kc)/\w.cell? ⟨V,2,none⟩=some (.string key)/\w.cell? ⟨V,3,none⟩=some (.slice pd nd kd)):=aa (fun w hg=>by
  have kb:=aE H4.out HV.2.2.1;have kv:=aE H4.out HV.1
  have hb:=(hg.block b (aC kb) (fun e=>by
   obtain⟨_,c2,H⟩:=h4.form.block b (by rw[E.1];exact e.symm);rw[kb]at H;cases H)).trans kb
  have hv:=(hg.block V (aC kv) (fun e=>by have:=HV.2.2.2.1 V e.symm;omega)).trans kv;exact⟨aA hb 0,aC hb,hb,aA hv 0,aA hv 1,aA hv 2,aA hv 3⟩)
 have a0:Hid (ac w4 0 77 4 (.slice ps n cs) n (dx i.fs ts)):=aa (by
  have:=h4.form
  rw[E.1,E.2.2.2]at this;exact this)
 have d6:=aa h4;have d7:n+1<=1000000:=(by have:=h2.out;have:=E.2.2.2;omega);clear h4;refine Par.ay 11 (FJ w4 (fun e5=>[.pointer (some ⟨b,0,none⟩),.pointer (some ⟨b,0,none⟩),.pointer (some ⟨b,0,none⟩),.pointer (some ⟨b,0,none⟩),.slice ps n cs,.agg #[.string nm,.slice pc nc kc,.string key,.slice pd nd kd],undef,undef,undef,.pointer (some ⟨b,0,none⟩),.pointer (some ⟨b,0,none⟩)].getD e5 undef) (.slice ps n cs) n (dx i.fs ts) nm key nc (.slice pd nd kd) (bh t)) ?AA ?hmA ?hBA ?hAA ?hJA ?hopA ?hTA
 case hmA=>kernel_rfl
 case hBA=>kernel_rfl
 case hAA =>
  intro vs;simp only[Par.am,Par.ai,Act.put,cy,db,bt,cp,dc,da,bu];rfl
 case hJA =>
  intro vs;have j:=aF w4;exact⟨cZ j,fun _=>j,fun _ _ h=>(by cases h),fun h=>(by cases h),fun h=>(by cases h),fun h=>(by cases h)⟩
 case hopA =>
  simp only[ce,ze,Par.br,yu];and_intros<;>intro l vs w a r j f
  ·have m:=aa a;obtain⟨x0,u,o,x1,x2,x3,x4⟩:=HX.out w a.gb;clear o;clear a j f;simp only[Par.af];go_simp;all_goals exact m.out.up 0 (by decide)
  ·have m:=aa a;obtain⟨x0,u,o,x1,x2,x3,x4⟩:=HX.out w a.gb;clear o;clear a j f;simp only[Par.af];go_simp;all_goals exact m.out.up 1 (by decide)
  ·have m:=aa a;obtain⟨x0,u,o,x1,x2,x3,x4⟩:=HX.out w a.gb;clear o;have d1:vs 1=.pointer (some ⟨b,0,none⟩):=a.ev 1 (by decide) (j 1 (by kernel_rfl));clear a j f;simp only[Par.af,d1];go_simp;all_goals exact m.out.up 2 (by decide)
  ·have m:=aa a;obtain⟨x0,u,o,x1,x2,x3,x4⟩:=HX.out w a.gb;clear o;have d2:vs 2=.pointer (some ⟨b,0,none⟩):=a.ev 2 (by decide) (j 2 (by kernel_rfl));clear a j f;simp only[Par.af,d2];go_simp;all_goals exact m.out.up 3 (by decide)
  ·have m:=aa a;obtain⟨x0,u,o,x1,x2,x3,x4⟩:=HX.out w a.gb;clear o;have d3:vs 3=.pointer (some ⟨b,0,none⟩):=a.ev 3 (by decide) (j 3 (by kernel_rfl));clear a j f;simp only[Par.af,d3];go_simp;all_goals exact m.out.up 4 (by decide)
  ·have m:=aa a;obtain⟨x0,u,o,x1,x2,x3,x4⟩:=HX.out w a.gb;clear o;clear a j f;simp only[Par.af];go_simp;all_goals exact m.out.up 5 (by decide)
  ·have P:l 7=false:=(by cases h:l 7 with|false=>rfl|true=>exact absurd (f 7 6 (by kernel_rfl) h) (by simp[r]));have h8:l 8=false:=(by cases h:l 8 with|false=>rfl|true=>exact absurd (f 8 7 (by kernel_rfl) h) (by simp[P]));have m:=aa a;have d5:vs 5=.agg #[.string nm,.slice pc nc kc,.string key,.slice pd nd kd]:=a.ev 5 (by decide) (j 5 (by kernel_rfl));have hc:=HF.out w (aB H4.out (a.f0 h8));clear a j f;simp only[Par.af,d5];go_simp;refine hc.mono ?_;rintro e y⟨p1,c1,rfl,hr,hb⟩;exact⟨_,rfl,m.out.s6 P h8 hr hb⟩
  ·have h8:l 8=false:=(by cases h:l 8 with|false=>rfl|true=>exact absurd (f 8 7 (by kernel_rfl) h) (by simp[r]));have h6:=j 6 (by kernel_rfl);obtain⟨p1,c1,e6,hr⟩:=a.f6 h6 h8;have m:=aa (a.s7 h8 e6 hr);clear a j f hr;simp only[Par.af,e6];go_simp;all_goals exact m.out
  ·have P:=j 7 (by kernel_rfl);obtain⟨p1,c1,g0,e6,hr,e7,hh⟩:=a.f7 P r;have d4:vs 4=.slice ps n cs:=a.ev 4 (by decide) (j 4 (by kernel_rfl))
   obtain⟨g,cg,w6,F,a8,a9,G⟩:=rJ (ty:=68) underlying68 Dy rfl (by decide) (by decide) w 0 (a0.out.later (a.f0 r)) d7 (zh _) g0 _ hh rfl (by
    intro x hx;simp only[wg,vz,or_false]at hx;rcases hx with rfl|rfl|rfl|rfl <;> rfl)
   exact Par.bf rfl (.tmp 19) (.tmp 22) 68 68 rfl d4 e7 F (a.s8 r hr a0.out rfl a8 a9 G)
  ·have m:=aa a;obtain⟨x0,u,o,x1,x2,x3,x4⟩:=HX.out w a.gb;clear o;have d0:vs 0=.pointer (some ⟨b,0,none⟩):=a.ev 0 (by decide) (j 0 (by kernel_rfl));clear a j f;simp only[Par.af,d0];go_simp;all_goals exact m.out.up 9 (by decide)
  have m:=aa a;obtain⟨x0,u,o,x1,x2,x3,x4⟩:=HX.out w a.gb;clear o;have d9:vs 9=.pointer (some ⟨b,0,none⟩):=a.ev 9 (by decide) (j 9 (by kernel_rfl));clear a j f;simp only[Par.af,d9];go_simp;all_goals exact m.out.up 10 (by decide)
 intro l vs w6 r a;simp only[cw,ym];have e9:vs 10=.pointer (some ⟨b,0,none⟩):=a.ev 10 (by decide) (r 10 (by decide));obtain⟨g8,c8,p1,c1,e8,r8,s8,t8⟩:=a.f8 (r 8 (by decide));obtain⟨x0,u,o,_⟩:=HX.out w6 a.gb;have xf:w6.frozen? ⟨b,0,none⟩=false:=zo w6 b 0 _ _ o;have p:=y9 w6 b 0 _ 71 (.slice (some ⟨g8,0,none⟩) (n+1) c8) o;obtain⟨b0,J⟩:=Da (k:=0) (v:=.slice (some ⟨g8,0,none⟩) (n+1) c8) o
 have c0:=DD a.gb (fun q s=>by
  obtain⟨_,f1,e⟩:=a0.out.block q s;exact⟨f1,e⟩)
 have G:ac w6 0 92 1 i.ov n (tt.map (·.rv)):=by
  have:=d6.out.outer
  rw[E.2.2.2]at this
  exact this.ma a.gb (fun k f1 e1 e2=>by
   obtain⟨_,c2,H⟩:=a0.out.block k e1;rw[e2]at H;cases H)
 have g5:ac w6 0 3 1 i.nv n (tt.map fun x=>Value.int .i64 (x.nx:Int)):=by
  have:=d6.out.nxs
  rw[E.2.2.2]at this
  exact this.ma a.gb (fun k f1 e1 e2=>by
   obtain⟨_,c2,H⟩:=a0.out.block k e1;rw[e2]at H;cases H)
 have f2:=J r8 (by decide);have o7:=J G (by decide);have n7:=J g5 (by decide);have f3:=t8.kp b0.qu;have I:=c0.trans b0 (T1:=fun q=>q=b∨(Value.slice ps n cs).ownBlock=some q) (fun _ _ h=>.inr h) (fun _ _ h=>.inl h);rw[E.2.1]at o7 p;rw[E.2.2.1]at n7 p;obtain⟨w7,f4⟩:=ag (w6.setCell ⟨b,0,none⟩ (.slice (some ⟨g8,0,none⟩) (n+1) c8));rw[f4]at f2 o7 n7 f3 I p;have p:w7.heap[b]?=some (.cells #[.slice (some ⟨g8,0,none⟩) (n+1) c8,.slice po n co,.slice pn n cn] 71):=p;have H7:=aa (ab f2 (ab o7 (ab n7 (ab f3 (ab I (ab p s8))))));have h3:=aa f4;rw[e8,e9];clear a r e8 r8 s8 t8 o p b0 J c0 G g5 f2 o7 n7 f3 I f4;go_upto_region 5 with fail;rw[h3.out];clear x0 xf u;refine Par.ay 17 (AJ w7 (fun e5=>[.pointer (some ⟨b,0,none⟩),.pointer (some ⟨b,0,none⟩),.pointer (some ⟨b,0,none⟩),.pointer (some ⟨b,0,none⟩),.pointer (some ⟨b,1,none⟩),.slice po n co,undef,undef,.pointer (some ⟨b,0,none⟩),.pointer (some ⟨b,0,none⟩),.pointer (some ⟨b,2,none⟩),.slice pn n cn,undef,undef,.pointer (some ⟨b,0,none⟩),.pointer (some ⟨b,1,none⟩),undef].getD e5 undef) b (.slice (some ⟨g8,0,none⟩) (n+1) c8) (.slice po n co) (.slice pn n cn) n (tt.map (·.rv)) (tt.map fun x=>Value.int .i64 (x.nx:Int))) ?AB ?hmB ?hBB ?hAB ?hJB ?hopB ?hTB
 case hmB=>kernel_rfl
 case hBB=>kernel_rfl
 case hAB =>
  intro vs;simp only[Par.am,Par.ai,Act.put,cy,db,bt,cp,dc,da,bu];rfl
 case hJB =>
  intro vs;have j:=aF w7;obtain⟨a1,a2,a3,a4,a5,a6,a7⟩:=H7.out;exact⟨Tn.of_below j,fun _ _ _ _ _ _ _ h=>(by cases h),aE j a6,fun _=>a2.later j,fun _=>a3.later j,fun h=>(by cases h),fun h=>(by cases h),fun h=>(by cases h),fun h=>(by cases h)⟩
 case hopB =>
  simp only[ce,ze,Par.br,yu];and_intros<;>intro l vs w a r j f
  ·have m:=aa a;have u:=aC a.box;clear a j f;simp only[Par.af];go_simp;all_goals exact m.out.up 0 (by decide)
  ·have m:=aa a;have u:=aC a.box;clear a j f;simp only[Par.af];go_simp;all_goals exact m.out.up 1 (by decide)
  ·have m:=aa a;have u:=aC a.box;clear a j f;simp only[Par.af];go_simp;all_goals exact m.out.up 2 (by decide)
  ·have m:=aa a;have u:=aC a.box;have d2:vs 2=.pointer (some ⟨b,0,none⟩):=a.ev 2 (by decide) (by decide) (by decide) (by decide) (by decide) (by decide) (j 2 (by kernel_rfl));clear a j f;simp only[Par.af,d2];go_simp;all_goals exact m.out.up 3 (by decide)
  ·have m:=aa a;have u:=aC a.box;have d3:vs 3=.pointer (some ⟨b,0,none⟩):=a.ev 3 (by decide) (by decide) (by decide) (by decide) (by decide) (by decide) (j 3 (by kernel_rfl));clear a j f;simp only[Par.af,d3];go_simp;all_goals exact m.out.up 4 (by decide)
  ·have m:=aa a;have P:l 7=false:=(by cases h:l 7 with|false=>rfl|true=>exact absurd (f 7 5 (by kernel_rfl) h) (by simp[r]));have L:l 16=false:=(by cases h:l 16 with|false=>rfl|true=>exact absurd (f 16 7 (by kernel_rfl) h) (by simp[P]));have b7:=a.box;rw[L]at b7;have u:=aC b7;have x1:w.cell? ⟨b,1,none⟩=some (.slice po n co):=aA b7 1;clear b7 P L;have d4:vs 4=.pointer (some ⟨b,1,none⟩):=a.ev 4 (by decide) (by decide) (by decide) (by decide) (by decide) (by decide) (j 4 (by kernel_rfl));clear a j f;simp only[Par.af,d4];go_simp;all_goals exact m.out.up 5 (by decide)
  ·have P:l 7=false:=(by cases h:l 7 with|false=>rfl|true=>exact absurd (f 7 6 (by kernel_rfl) h) (by simp[r]));have m:=aa (a.s6 P);clear a j f;simp only[Par.af];go_simp;all_goals exact m.out
  ·have b1:l 13=false:=(by cases h:l 13 with|false=>rfl|true=>exact absurd (f 13 7 (by kernel_rfl) h) (by simp[r]));have L:l 16=false:=(by cases h:l 16 with|false=>rfl|true=>exact absurd (f 16 7 (by kernel_rfl) h) (by simp[r]));obtain⟨g0,e6,hh,_⟩:=a.f6 (j 6 (by kernel_rfl)) r;have d5:vs 5=.slice po n co:=a.ev 5 (by decide) (by decide) (by decide) (by decide) (by decide) (by decide) (j 5 (by kernel_rfl))
   obtain⟨g,cg,w6,F,a8,a9,G⟩:=rJ (ty:=69) underlying69 DZ rfl (by decide) (by decide) w 0 (a.r7 r) d7 (zh _) g0 _ hh rfl (by
    intro x hx;simp only[wg,vz,or_false]at hx;rcases hx with rfl;rfl)
   exact Par.bf rfl (.tmp 31) (.tmp 32) 69 69 rfl d5 e6 F (a.s7 r b1 L rfl a8 a9 G)
  ·have m:=aa a;have u:=aC a.box;clear a j f;simp only[Par.af];go_simp;all_goals exact m.out.up 8 (by decide)
  ·have m:=aa a;have u:=aC a.box;have d8:vs 8=.pointer (some ⟨b,0,none⟩):=a.ev 8 (by decide) (by decide) (by decide) (by decide) (by decide) (by decide) (j 8 (by kernel_rfl));clear a j f;simp only[Par.af,d8];go_simp;all_goals exact m.out.up 9 (by decide)
  ·have m:=aa a;have u:=aC a.box;have d9:vs 9=.pointer (some ⟨b,0,none⟩):=a.ev 9 (by decide) (by decide) (by decide) (by decide) (by decide) (by decide) (j 9 (by kernel_rfl));clear a j f;simp only[Par.af,d9];go_simp;all_goals exact m.out.up 10 (by decide)
  ·have m:=aa a;have u:=aC a.box;have x2:w.cell? ⟨b,2,none⟩=some (.slice pn n cn):=aA a.box 2;have e9:vs 10=.pointer (some ⟨b,2,none⟩):=a.ev 10 (by decide) (by decide) (by decide) (by decide) (by decide) (by decide) (j 10 (by kernel_rfl));clear a j f;simp only[Par.af,e9];go_simp;all_goals exact m.out.up 11 (by decide)
  ·have b1:l 13=false:=(by cases h:l 13 with|false=>rfl|true=>exact absurd (f 13 12 (by kernel_rfl) h) (by simp[r]));have m:=aa (a.s12 b1);clear a j f;simp only[Par.af];go_simp;all_goals exact m.out
  ·have L:l 16=false:=(by cases h:l 16 with|false=>rfl|true=>exact absurd (f 16 13 (by kernel_rfl) h) (by simp[r]));obtain⟨g0,h5,hh,_⟩:=a.f12 (j 12 (by kernel_rfl)) r;have h9:vs 11=.slice pn n cn:=a.ev 11 (by decide) (by decide) (by decide) (by decide) (by decide) (by decide) (j 11 (by kernel_rfl))
   obtain⟨g,cg,w6,F,a8,a9,G⟩:=rJ (ty:=45) underlying45 DC rfl (by decide) (by decide) w 0 (a.ru r) d7 (zh _) g0 _ hh rfl (by
    intro x hx;simp only[wg,vz,or_false]at hx;rcases hx with rfl;rfl)
   exact Par.bf rfl (.tmp 37) (.tmp 38) 45 45 rfl h9 h5 F (a.s13 (j 7 (by kernel_rfl)) r L rfl a8 a9 G)
  ·have m:=aa a;have u:=aC a.box;have d0:vs 0=.pointer (some ⟨b,0,none⟩):=a.ev 0 (by decide) (by decide) (by decide) (by decide) (by decide) (by decide) (j 0 (by kernel_rfl));clear a j f;simp only[Par.af,d0];go_simp;all_goals exact m.out.up 14 (by decide)
  ·have m:=aa a;have u:=aC a.box;have i0:vs 14=.pointer (some ⟨b,0,none⟩):=a.ev 14 (by decide) (by decide) (by decide) (by decide) (by decide) (by decide) (j 14 (by kernel_rfl));clear a j f;simp only[Par.af,i0];go_simp;all_goals exact m.out.up 15 (by decide)
  have i1:vs 15=.pointer (some ⟨b,1,none⟩):=a.ev 15 (by decide) (by decide) (by decide) (by decide) (by decide) (by decide) (j 15 (by kernel_rfl));have P:=j 7 (by kernel_rfl);have b1:=j 13 (by kernel_rfl);obtain⟨g7,c7,e7,_,_⟩:=a.f7 P;have o:=a.box;have u:=aC o;have xf:w.frozen? ⟨b,1,none⟩=false:=zo w b 1 _ _ o;have x1:=aA o 1;have m:=aa (a.s16 P b1 r undef);rw[e7]at m;clear a j f o;simp only[Par.af,i1,e7];go_simp;all_goals exact m.out
 intro l vs w8 r a;simp only[cw,ym];have d1:vs 1=.pointer (some ⟨b,0,none⟩):=a.ev 1 (by decide) (by decide) (by decide) (by decide) (by decide) (by decide) (r 1 (by decide));obtain⟨g7,c7,e7,r7,s7⟩:=a.f7 (r 7 (by decide));obtain⟨f5,g1,g6,ru,b8⟩:=a.f13 (r 13 (by decide));have o:=a.box;rw[r 16 (by decide),zv rfl,e7]at o;have u:=aC o;have xf:w8.frozen? ⟨b,2,none⟩=false:=zo w8 b 2 _ _ o;have x2:=aA o 2;have M:=a.tn;have H8:=aa (ab r7 (ab s7 (ab ru (ab b8 (ab o M)))));rw[d1,g6];clear a r e7 r7 s7 ru b8 o M d1 g6;go_wp2_with fail;go_ret;obtain⟨r7,s7,ru,b8,o,M⟩:=H8.out;obtain⟨a1,a2,a3,a4,a5,a6,a7⟩:=H7.out;have g2:=y9 w8 b 2 _ 71 (.slice (some ⟨f5,0,none⟩) (n+1) g1) o;obtain⟨c4,b2⟩:=Da (k:=2) (v:=.slice (some ⟨f5,0,none⟩) (n+1) g1) o
 have f8:ac w8 0 77 4 (.slice (some ⟨g8,0,none⟩) (n+1) c8) (n+1) (dx i.fs ts++[.string nm,.slice p1 nc c1,.string key,.slice pd nd kd]):=a1.of (fun k hk=>by
  obtain⟨_,c2,H⟩:=a1.block k hk;refine M.chg.block k (aC H) (fun hS=>?_);rcases hS with e|e|e
  ·rw[e,a6]at H;cases H
  ·obtain⟨_,c3,q3⟩:=a2.block k e;rw[q3]at H;cases H
  obtain⟨_,c3,q3⟩:=a3.block k e;rw[q3]at H;cases H)
 have f9:=b2 f8 (by decide);have o9:=b2 r7 (by decide);have n9:=b2 ru (by decide);have t9:=a4.kp (M.trans c4 (T1:=fun _=>True) (fun _ _ _=>trivial) (fun _ _ _=>trivial)).qu;have hD:=d6.out;have e2:=hD.o2;have e3:=hD.o3;have e4:=hD.o4;rw[E.1]at e2;rw[E.2.1]at e3;rw[E.2.2.1]at e4;have e1:=hD.o1;have k1:∀q,q=b->O q≠0/\O q<=4:=fun q s=>by rw[s,e1];decide
 have b3:Tn (fun q=>O q≠0/\O q<=4) w4 (w8.setCell ⟨b,2,none⟩ (.slice (some ⟨f5,0,none⟩) (n+1) g1)):=
  (a5.trans M (T1:=fun q=>O q≠0/\O q<=4) (fun q _ s=>s.elim (k1 q) (fun s=>by rw[e2 q s];decide)) (fun q _ s=>s.elim (k1 q) (fun s=>s.elim (fun s=>by rw[e3 q s];decide) (fun s=>by rw[e4 q s];decide)))).trans c4 (fun _ _ h=>h) (fun q _ s=>k1 q s)
 have c5:=hD.addtab (t:=bh t) (c:=.slice p1 nc c1) (d:=.slice pd nd kd) g2 b3 (by rw[E.2.2.2];exact HN.1▸HN.2▸f9) t9 (by rw[E.2.2.2];exact o9) (by rw[E.2.2.2];exact n9)
  (fun q s=>by rw[E.1];cases s;exact a7) (fun q s=>by rw[E.2.1];cases s;exact s7.imp id (fun h=>zw a5.size h)) (fun q s=>by rw[E.2.2.1];cases s;exact b8.imp id (fun h=>zw a5.size h))
 have g9:=aB HV.2.1 H4.out;exact⟨rfl,_,_,c5.1,fun q s=>c5.2 q (z9 s g9.size),(Tn.of_below (S:=fun q=>O q≠0/\O q<=4) g9).trans b3 (fun _ _ h=>h) (fun _ _ h=>h)⟩
end
