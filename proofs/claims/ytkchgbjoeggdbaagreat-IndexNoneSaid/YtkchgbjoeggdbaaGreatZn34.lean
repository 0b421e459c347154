import Derived.Test.YtkchgbjoeggdbaaGreatZn33
set_option maxHeartbeats 8000000
set_option maxRecDepth 100000
namespace Go.Proofs.YtkchgbjoeggdbaaGreat
open Go.Proofs.Tryz
open Go Go.RowKit Go.Proofs Co Co.S
section
variable{W w:World}{b:Nat}{ts:List T}{tt:List RT}{i:NI}{O:Nat->Nat}{t:T}{cv dv:Value}
end
theorem tH(fs:List (Value×Value))(ts:List T)(f:Value×Value)(t:T)(h:fs.length=ts.length):fp (fs++[f]) (ts++[t])=fp fs ts++[.string t.nm,f.1,.string t.key,f.2]:=by
 unfold fp;rw[List.zip_append h,List.flatMap_append]
 simp
def uo:RT:=⟨.slice none 0 0,0,[],[]⟩
theorem qd.nil{W:World}{t:T}{O:Nat->Nat}{j:Nat}:qd W t uo O j:=
 ⟨ac.nil,rfl,fun _ h=>absurd h (yh _),fun _ _ h=>absurd h (yh _),fun _ h=>(by cases h),List.Pairwise.nil,fun _ h=>(by cases h),fun _ h=>(by cases h),fun _ h=>absurd h (yh _)⟩
def sd(W:World)(O:Nat->Nat)(sv ov nv:Value)(q:Nat):Nat:=
 if q<W.heap.size then O q else if sv.ownBlock=some q then 2 else if ov.ownBlock=some q then 3 else if nv.ownBlock=some q then 4 else 0
section
variable{W W':World}{b:Nat}{ts:List T}{tt:List RT}{i:NI}{O:Nat->Nat}{t:T}{sv ov nv c d:Value}
theorem im.addtab(h:im W b ts tt i O)(hbox:W'.heap[b]?=some (.cells #[sv,ov,nv] 125))(hk:Tn (fun q=>O q≠0/\O q<=4) W W')(hform:ac W' 0 60 4 sv (ts.length+1) (fp i.fs ts++[.string t.nm,c,.string t.key,d]))(hrd:dw W' c d t)(hout:ac W' 0 159 1 ov (ts.length+1) (tt.map (·.rv)++[.slice none 0 0]))(hnx:ac W' 0 3 1 nv (ts.length+1) (tt.map (fun x=>Value.int .i64 (x.nx:Int))++[.int .i64 0]))(h2:∀q,sv.ownBlock=some q->i.sv.ownBlock=some q∨W.heap.size<=q)(h3:∀q,ov.ownBlock=some q->i.ov.ownBlock=some q∨W.heap.size<=q)(h4:∀q,nv.ownBlock=some q->i.nv.ownBlock=some q∨W.heap.size<=q):im W' b (ts++[t]) (tt++[uo]) ⟨sv,ov,nv,i.fs++[(c,d)]⟩ (sd W O sv ov nv)/\Ext W O (sd W O sv ov nv):=by
 have g:∀q,q<W.heap.size->sd W O sv ov nv q=O q:=(fun q f=>by unfold sd;rw[zw f]);have u:=aB h.box;have p:(ts++[t]).length=ts.length+1:=by simp
 have v:∀q,sv.ownBlock=some q->ov.ownBlock=some q->False:=fun q l k=>by
  obtain⟨_,_,s⟩:=hform.block q l;obtain⟨_,_,o⟩:=hout.block q k;rw[s]at o;cases o
 have w:∀q,sv.ownBlock=some q->nv.ownBlock=some q->False:=fun q l k=>by
  obtain⟨_,_,s⟩:=hform.block q l;obtain⟨_,_,o⟩:=hnx.block q k;rw[s]at o;cases o
 have y:∀q,ov.ownBlock=some q->nv.ownBlock=some q->False:=fun q l k=>by
  obtain⟨_,_,s⟩:=hout.block q l;obtain⟨_,_,o⟩:=hnx.block q k;rw[s]at o;cases o
 refine⟨⟨hbox,?_,?_,?_,fun j a e=>?_,?_,?_,fun j a e=>?_,(g b u).trans h.o1,fun q f=>?_,fun q f=>?_,fun q f=>?_,fun q f=>?_⟩,fun q f=>g q f⟩
 ·rw[y6,y6,h.n];rfl
 ·rw[y6,y6,h.fn];rfl
 ·rw[p,tH _ _ _ _ h.fn];exact hform
 ·by_cases r:j<ts.length
  ·have m:j<i.fs.length:=(by rw[h.fn];exact r);have l:(i.fs++[(c,d)])[j]=i.fs[j]:=yx m;have k:(ts++[t])[j]=ts[j]:=yx r;show dw W' (i.fs++[(c,d)])[j].1 (i.fs++[(c,d)])[j].2 (ts++[t])[j];rw[l,k];exact(h.rd j r m).kp hk.qu
  obtain rfl:j=ts.length:=by omega
  have l:(i.fs++[(c,d)])[ts.length]'e=(c,d):=by
   rw[vf (by rw[h.fn];exact zo _)];simp
  have k:(ts++[t])[ts.length]'a=t:=by
   rw[vf (zo _)];simp
  show dw W' (i.fs++[(c,d)])[ts.length].1 (i.fs++[(c,d)])[ts.length].2 (ts++[t])[ts.length];rw[l,k];exact hrd
 ·rw[p,vw];exact hout
 ·rw[p,vw];exact hnx
 ·by_cases r:j<ts.length
  ·have m:j<tt.length:=(by rw[h.n];exact r);have l:(tt++[uo])[j]=tt[j]:=yx m;have k:(ts++[t])[j]=ts[j]:=yx r;rw[l,k];exact(h.tab j r m).tn hk (fun q f=>by omega) g
  obtain rfl:j=ts.length:=by omega
  have l:(tt++[uo])[ts.length]'e=uo:=by
   rw[vf (by rw[h.n];exact zo _)];simp[h.n]
  rw[l];exact qd.nil
 ·rcases h2 q f with e|e
  ·exact(g q (ac.lt h.form q e).2).trans (h.o2 q e)
  unfold sd;rw[zu (Nat.not_lt.2 e),zw f]
 ·rcases h3 q f with e|e
  ·exact(g q (ac.lt h.outer q e).2).trans (h.o3 q e)
  unfold sd;rw[zu (Nat.not_lt.2 e),zu (fun k=>v q k f),zw f]
 ·rcases h4 q f with e|e
  ·exact(g q (ac.lt h.nxs q e).2).trans (h.o4 q e)
  unfold sd;rw[zu (Nat.not_lt.2 e),zu (fun k=>w q k f),zu (fun k=>y q k f),zw f]
 by_cases z:q<W.heap.size
 ·exact z9 z hk.size
 unfold sd at f;rw[zu z]at f;by_cases l:sv.ownBlock=some q
 ·exact(ac.lt hform q l).2
 rw[zu l]at f;by_cases k:ov.ownBlock=some q
 ·exact(ac.lt hout q k).2
 rw[zu k]at f;by_cases A:nv.ownBlock=some q
 ·exact(ac.lt hnx q A).2
 rw[zu A]at f;exact absurd rfl f
end
theorem Fe:(prog.info? 60).map (fun i=>(i.zero,i.size,i.bytes))=some (some (.agg #[.string e0,.slice none 0 0,.string e0,.slice none 0 0]),4,80):=by kernel_rfl
theorem Ir:(prog.info? 159).map (fun i=>(i.zero,i.size,i.bytes))=some (some (.slice none 0 0),1,24):=by kernel_rfl
theorem Ht:(prog.info? 3).map (fun i=>(i.zero,i.size,i.bytes))=some (some (.int .i64 0),1,8):=by kernel_rfl
theorem qL{t ty e:TypeId}{z:Value}{size bytes:Nat}(ht:prog.underlying t=some (.slice e))(hinf:(prog.info? e).map (fun i=>(i.zero,i.size,i.bytes))=some (some z,size,bytes))(hzs:z.cells.size=size)(hsz:0<size)(hby:bytes<=80)(w:World)(base:Nat){v:Value}{m:Nat}{xs:List Value}(hr:ac w base e size v m xs)(hm:m+1<=1000000)(hb:base<=w.heap.size)(g0:Nat)(cs:Array Value)(hh:w.heap[g0]?=some (.cells cs e))(hcs:cs.size=size)(h1:∀u∈cs.toList,u.oneCell'=true):∃g a w',(Builtin.append_ #[t,t] ty #[v,.slice (some ⟨g0,0,none⟩) 1 1]).run prog w=.ok (.slice (some ⟨g,0,none⟩) (m+1) a) w'/\ac w' base e size (.slice (some ⟨g,0,none⟩) (m+1) a) (m+1) (xs++cs.toList)/\w.grownBy w' v.ownBlock/\(v.ownBlock=some g∨w.heap.size<=g):=by
 obtain⟨k,c,d,f,h⟩:=info_parts hinf
 have b:(m+1)*bytes<=140737488355328:=by
  have:(m+1)*bytes<=1000000*80:=Nat.mul_le_mul hm hby
  omega
 obtain⟨g,a,w',j,l,n,o⟩:=aS (P:=prog) w base t ty e k z size bytes ht c d f h hzs hsz hr ⟨g0,0,none⟩ 1 1 cs.toList (by simpa using hcs)
  (by exact World.news_of_block hh) h1 (by decide) (by unfold maxLen;omega) b hb
 exact⟨g,a,w',j,l,n,o⟩
theorem ac.mi{w w':World}{base size n:Nat}{e:TypeId}{v:Value}{xs:List Value}(h:ac w base e size v n xs){o:Option Nat}(hg:w.grownBy w' o)(ho:∀k a,o=some k->w.heap[k]?≠some (.cells a e)):ac w' base e size v n xs:=
 h.of (fun k c=>by
  obtain⟨_,a,b⟩:=h.block k c;exact hg.block k (aB b) (fun d=>ho k a d.symm b))
structure FJ (W0:World) (E:Nat->Value) (rv:Value) (n:Nat) (xs:List Value) (nm key:ByteArray) (nc:Nat) (dv:Value) (t:T) (l:Nat->Bool) (vs:Nat->Value) (w:World):Prop where
 gb:W0.grownBy w rv.ownBlock
 f0:l 8=false->Below W0.heap.size W0 w
 ev:∀j,j<6∨j=9∨j=10->l j=true->vs j=E j
 f6:l 6=true->l 8=false->∃p1 c1,vs 6=.agg #[.string nm,.slice p1 nc c1,.string key,dv]/\dw w (.slice p1 nc c1) dv t
 f7:l 7=true->l 8=false->∃p1 c1 g0,vs 6=.agg #[.string nm,.slice p1 nc c1,.string key,dv]/\dw w (.slice p1 nc c1) dv t/\vs 7=.slice (some ⟨g0,0,none⟩) 1 1/\w.heap[g0]?=some (.cells #[.string nm,.slice p1 nc c1,.string key,dv] 60)
 f8:l 8=true->∃g cap p1 c1,vs 8=.slice (some ⟨g,0,none⟩) (n+1) cap/\ac w 0 60 4 (.slice (some ⟨g,0,none⟩) (n+1) cap) (n+1) (xs++[.string nm,.slice p1 nc c1,.string key,dv])/\(rv.ownBlock=some g∨W0.heap.size<=g)/\dw w (.slice p1 nc c1) dv t
section
open Par
variable{W0 w w':World}{E:Nat->Value}{rv:Value}{n:Nat}{xs:List Value}{nm key:ByteArray}{nc:Nat}{dv:Value}{t:T}{l:Nat->Bool}{vs:Nat->Value}
theorem FJ.up(h:FJ W0 E rv n xs nm key nc dv t l vs w)(i:Nat)(hi:i<6∨i=9∨i=10):FJ W0 E rv n xs nm key nc dv t (fg l i) (ef vs i (E i)) w:=by
 have k:∀j,j=6∨j=7∨j=8->fg l i j=l j/\ef vs i (E i) j=vs j:=(fun j f=>⟨aL (by omega),aO (by omega)⟩);obtain⟨m,g⟩:=k 6 (by simp);obtain⟨o,p⟩:=k 7 (by simp);obtain⟨d,q⟩:=k 8 (by simp);refine⟨h.gb,fun a=>h.f0 (d▸a),fun j f a=>?_,fun b c=>?_,fun b c=>?_,fun a=>?_⟩
 ·by_cases e:j=i
  ·subst e;rw[bI]
  rw[aO e];rw[aL e]at a;exact h.ev j f a
 ·rw[m]at b;rw[d]at c;rw[g];exact h.f6 b c
 ·rw[o]at b;rw[d]at c;rw[g,p];exact h.f7 b c
 rw[d]at a;rw[q];exact h.f8 a
theorem FJ.s6(h:FJ W0 E rv n xs nm key nc dv t l vs w)(h7:l 7=false)(h8:l 8=false){p1:Option Addr}{c1:Nat}(hr:dw w' (.slice p1 nc c1) dv t)(hb:Below w.heap.size w w'):FJ W0 E rv n xs nm key nc dv t (fg l 6) (ef vs 6 (.agg #[.string nm,.slice p1 nc c1,.string key,dv])) w':=by
 have b:=aC (h.f0 h8) hb;refine⟨jL b,fun _=>b,fun j c a=>?_,fun _ _=>⟨p1,c1,bI,hr⟩,fun a _=>?_,fun a=>?_⟩
 ·rw[aO (by omega)];rw[aL (by omega)]at a;exact h.ev j c a
 ·rw[aL (by decide),h7]at a;cases a
 rw[aL (by decide),h8]at a;cases a
theorem FJ.s7(h:FJ W0 E rv n xs nm key nc dv t l vs w)(h8:l 8=false){p1:Option Addr}{c1:Nat}(e6:vs 6=.agg #[.string nm,.slice p1 nc c1,.string key,dv])(hr:dw w (.slice p1 nc c1) dv t):FJ W0 E rv n xs nm key nc dv t (fg l 7) (ef vs 7 (.slice (some ⟨w.heap.size,0,none⟩) 1 1)) (w.alloc (.cells #[.string nm,.slice p1 nc c1,.string key,dv] 60)):=by
 have a:=aD w (.cells #[.string nm,.slice p1 nc c1,.string key,dv] 60);have b:=aC (h.f0 h8) a;have c:=hr.kp (Tn.of_below (S:=fun _=>False) a).qu;refine⟨jL b,fun _=>b,fun j e d=>?_,fun _ _=>⟨p1,c1,by rw[aO (by decide)];exact e6,c⟩,fun _ _=>⟨p1,c1,_,by rw[aO (by decide)];exact e6,c,bI,z7 w _⟩,fun d=>?_⟩
 ·rw[aO (by omega)];rw[aL (by omega)]at d;exact h.ev j e d
 rw[aL (by decide),h8]at d;cases d
theorem yJ{o:Option Nat}(hg:w.grownBy w' o)(ho:∀q,o=some q->∃a,w.heap[q]?=some (.cells a 60)):Tn (fun q=>o=some q) w w':=
 Tn.bt ⟨hg.os,hg.tape,hg.output,hg.size,fun q b c=>hg.block q b (fun e=>c e.symm)⟩ (fun q _ b=>by
  obtain⟨a,e⟩:=ho q b;exact .inl ⟨a,60,e,rfl⟩)
theorem FJ.s8(h:FJ W0 E rv n xs nm key nc dv t l vs w)(h8:l 8=false){p1:Option Addr}{c1:Nat}(hr:dw w (.slice p1 nc c1) dv t)(hW:ac W0 0 60 4 rv n xs){g cap:Nat}{v:Value}(hv:v=.slice (some ⟨g,0,none⟩) (n+1) cap)(hr2:ac w' 0 60 4 (.slice (some ⟨g,0,none⟩) (n+1) cap) (n+1) (xs++[.string nm,.slice p1 nc c1,.string key,dv]))(hg:w.grownBy w' rv.ownBlock)(ho:rv.ownBlock=some g∨w.heap.size<=g):FJ W0 E rv n xs nm key nc dv t (fg l 8) (ef vs 8 v) w':=by
 have b:=h.f0 h8;have d:W0.grownBy w' rv.ownBlock:=⟨hg.os.trans b.os,hg.tape.trans b.tape,hg.output.trans b.output,zx b.size hg.size,fun q c k=>(hg.block q (z9 c b.size) k).trans (b.block q c)⟩
 have f:=yJ hg (fun q c=>by
  obtain⟨_,i,e⟩:=(hW.later b).block q c;exact⟨i,e⟩)
 refine⟨d,fun a=>?_,fun j m a=>?_,fun _ a=>?_,fun _ a=>?_,fun _=>⟨g,cap,p1,c1,bI.trans hv,hr2,ho.imp (fun h=>h) (fun h=>zx b.size h),hr.kp f.qu⟩⟩
 ·rw[cJ]at a;cases a
 ·rw[aO (by omega)];rw[aL (by omega)]at a;exact h.ev j m a
 ·rw[cJ]at a;cases a
 rw[cJ]at a;cases a
end
structure AJ (W0:World) (E:Nat->Value) (b:Nat) (sv ov nv:Value) (n:Nat) (xs ys:List Value) (l:Nat->Bool) (vs:Nat->Value) (w:World):Prop where
 tn:Tn (fun q=>q=b∨ov.ownBlock=some q∨nv.ownBlock=some q) W0 w
 ev:∀j,j<17->j≠6->j≠7->j≠12->j≠13->j≠16->l j=true->vs j=E j
 box:w.heap[b]?=some (.cells #[sv,(if l 16=true then vs 7 else ov),nv] 125)
 r7:l 7=false->ac w 0 159 1 ov n xs
 uj:l 13=false->ac w 0 3 1 nv n ys
 f6:l 6=true->l 7=false->∃g0,vs 6=.slice (some ⟨g0,0,none⟩) 1 1/\w.heap[g0]?=some (.cells #[.slice none 0 0] 159)/\W0.heap.size<=g0
 f12:l 12=true->l 13=false->∃g0,vs 12=.slice (some ⟨g0,0,none⟩) 1 1/\w.heap[g0]?=some (.cells #[.int .i64 0] 3)/\W0.heap.size<=g0
 f7:l 7=true->∃g cap,vs 7=.slice (some ⟨g,0,none⟩) (n+1) cap/\ac w 0 159 1 (.slice (some ⟨g,0,none⟩) (n+1) cap) (n+1) (xs++[.slice none 0 0])/\(ov.ownBlock=some g∨W0.heap.size<=g)
 f13:l 13=true->∃g cap,vs 13=.slice (some ⟨g,0,none⟩) (n+1) cap/\ac w 0 3 1 (.slice (some ⟨g,0,none⟩) (n+1) cap) (n+1) (ys++[.int .i64 0])/\(nv.ownBlock=some g∨W0.heap.size<=g)
section
open Par
variable{W0 w w':World}{E:Nat->Value}{b:Nat}{sv ov nv:Value}{n:Nat}{xs ys:List Value}{l:Nat->Bool}{vs:Nat->Value}
theorem AJ.up(h:AJ W0 E b sv ov nv n xs ys l vs w)(i:Nat)(hi:i<17/\i≠6/\i≠7/\i≠12/\i≠13/\i≠16):AJ W0 E b sv ov nv n xs ys (fg l i) (ef vs i (E i)) w:=by
 have k:∀j,j=6∨j=7∨j=12∨j=13∨j=16->fg l i j=l j/\ef vs i (E i) j=vs j:=(fun j o=>⟨aL (by omega),aO (by omega)⟩);obtain⟨r,s⟩:=k 6 (by simp);obtain⟨c,p⟩:=k 7 (by simp);obtain⟨d,f⟩:=k 12 (by simp);obtain⟨a,g⟩:=k 13 (by simp);obtain⟨m,t⟩:=k 16 (by simp);refine⟨h.tn,fun j o u v x y z q=>?_,by rw[m,p];exact h.box,by rw[c];exact h.r7,by rw[a];exact h.uj,by rw[r,c,s];exact h.f6,by rw[d,a,f];exact h.f12,by rw[c,p];exact h.f7,by rw[a,g];exact h.f13⟩;by_cases e:j=i
 ·subst e;rw[bI]
 rw[aO e];rw[aL e]at q;exact h.ev j o u v x y z q
theorem AJ.s6(h:AJ W0 E b sv ov nv n xs ys l vs w)(h7:l 7=false):AJ W0 E b sv ov nv n xs ys (fg l 6) (ef vs 6 (.slice (some ⟨w.heap.size,0,none⟩) 1 1)) (w.alloc (.cells #[.slice none 0 0] 159)):=by
 have c:=aD w (.cells #[.slice none 0 0] 159);have u:∀j,j≠6->fg l 6 j=l j/\ef vs 6 (.slice (some ⟨w.heap.size,0,none⟩) 1 1) j=vs j:=(fun j d=>⟨aL d,aO d⟩);refine⟨h.tn.trans (Tn.of_below (S:=fun _=>False) c) (fun _ _ h=>h) (fun _ _ h=>h.elim),fun j d e q r s t a=>?_,?_,fun a=>?_,fun a=>?_,fun _ _=>⟨_,bI,z7 w _,h.tn.size⟩,fun o p=>?_,fun a=>?_,fun a=>?_⟩
 ·rw[(u j e).2];rw[(u j e).1]at a;exact h.ev j d e q r s t a
 ·rw[(u 16 (by decide)).1,(u 7 (by decide)).2];exact aE c h.box
 ·rw[(u 7 (by decide)).1]at a;exact(h.r7 a).later c
 ·rw[(u 13 (by decide)).1]at a;exact(h.uj a).later c
 ·rw[(u 12 (by decide)).1]at o;rw[(u 13 (by decide)).1]at p;rw[(u 12 (by decide)).2]
  obtain⟨v,f,i,k⟩:=h.f12 o p;exact⟨v,f,aE c i,k⟩
 ·rw[(u 7 (by decide)).1,h7]at a;cases a
 rw[(u 13 (by decide)).1]at a;rw[(u 13 (by decide)).2]
 obtain⟨g,m,f,i,k⟩:=h.f13 a;exact⟨g,m,f,i.later c,k⟩
theorem AJ.s12(h:AJ W0 E b sv ov nv n xs ys l vs w)(h13:l 13=false):AJ W0 E b sv ov nv n xs ys (fg l 12) (ef vs 12 (.slice (some ⟨w.heap.size,0,none⟩) 1 1)) (w.alloc (.cells #[.int .i64 0] 3)):=by
 have c:=aD w (.cells #[.int .i64 0] 3);have u:∀j,j≠12->fg l 12 j=l j/\ef vs 12 (.slice (some ⟨w.heap.size,0,none⟩) 1 1) j=vs j:=(fun j d=>⟨aL d,aO d⟩);refine⟨h.tn.trans (Tn.of_below (S:=fun _=>False) c) (fun _ _ h=>h) (fun _ _ h=>h.elim),fun j d q r e s t a=>?_,?_,fun a=>?_,fun a=>?_,fun o p=>?_,fun _ _=>⟨_,bI,z7 w _,h.tn.size⟩,fun a=>?_,fun a=>?_⟩
 ·rw[(u j e).2];rw[(u j e).1]at a;exact h.ev j d q r e s t a
 ·rw[(u 16 (by decide)).1,(u 7 (by decide)).2];exact aE c h.box
 ·rw[(u 7 (by decide)).1]at a;exact(h.r7 a).later c
 ·rw[(u 13 (by decide)).1]at a;exact(h.uj a).later c
 ·rw[(u 6 (by decide)).1]at o;rw[(u 7 (by decide)).1]at p;rw[(u 6 (by decide)).2]
  obtain⟨v,f,i,k⟩:=h.f6 o p;exact⟨v,f,aE c i,k⟩
 ·rw[(u 7 (by decide)).1]at a;rw[(u 7 (by decide)).2]
  obtain⟨g,m,f,i,k⟩:=h.f7 a;exact⟨g,m,f,i.later c,k⟩
 rw[(u 13 (by decide)).1,h13]at a;cases a
theorem Cl{base size m:Nat}{e:TypeId}{v:Value}{zs:List Value}(hr:ac w base e size v m zs)(he:Bx e=true)(hg:w.grownBy w' v.ownBlock):Tn (fun q=>v.ownBlock=some q) w w':=
 Tn.bt ⟨hg.os,hg.tape,hg.output,hg.size,fun q a d=>hg.block q a (fun b=>d b.symm)⟩ (fun q _ a=>by
  obtain⟨_,c,b⟩:=hr.block q a;exact .inl ⟨c,e,b,he⟩)
theorem AJ.s7(h:AJ W0 E b sv ov nv n xs ys l vs w)(h7:l 7=false)(h13:l 13=false)(h16:l 16=false){v:Value}{g cap:Nat}(hv:v=.slice (some ⟨g,0,none⟩) (n+1) cap)(hr:ac w' 0 159 1 (.slice (some ⟨g,0,none⟩) (n+1) cap) (n+1) (xs++[.slice none 0 0]))(hg:w.grownBy w' ov.ownBlock)(ho:ov.ownBlock=some g∨w.heap.size<=g):AJ W0 E b sv ov nv n xs ys (fg l 7) (ef vs 7 v) w':=by
 have d:=h.r7 h7;have o:=Cl d rfl hg
 have no:∀(q:Nat) (c:Array Value) (e:TypeId),e≠159->w.heap[q]?=some (Obj.cells c e)->w'.heap[q]?=some (Obj.cells c e):=fun q c e z p=>by
  rw[hg.block q (aB p) (fun r=>?_)]
  ·exact p
  obtain⟨_,c2,f⟩:=d.block q r.symm;rw[p]at f;cases f;exact z rfl
 have u:∀j,j≠7->fg l 7 j=l j/\ef vs 7 v j=vs j:=(fun j m=>⟨aL m,aO m⟩);refine⟨h.tn.trans o (fun _ _ h=>h) (fun _ _ h=>.inr (.inl h)),fun j m A s B F G a=>?_,?_,fun a=>?_,fun a=>?_,fun _ i=>?_,fun t i=>?_,fun _=>⟨g,cap,bI.trans hv,hr,ho.imp (fun h=>h) (fun i=>zx h.tn.size i)⟩,fun a=>?_⟩
 ·rw[(u j s).2];rw[(u j s).1]at a;exact h.ev j m A s B F G a
 ·rw[(u 16 (by decide)).1,h16];have x:=h.box;rw[h16]at x;exact no b _ 125 (by decide) x
 ·rw[cJ]at a;cases a
 ·rw[(u 13 (by decide)).1]at a
  exact(h.uj a).mi hg (fun k c H r=>by
   obtain⟨_,c2,f⟩:=d.block k H;rw[r]at f;cases f)
 ·rw[cJ]at i;cases i
 ·rw[(u 12 (by decide)).1]at t;rw[(u 13 (by decide)).1]at i;rw[(u 12 (by decide)).2]
  obtain⟨y,I,f,J⟩:=h.f12 t i;exact⟨y,I,no y _ 3 (by decide) f,J⟩
 rw[(u 13 (by decide)).1,h13]at a;cases a
theorem AJ.s13(h:AJ W0 E b sv ov nv n xs ys l vs w)(h7:l 7=true)(h13:l 13=false)(h16:l 16=false){v:Value}{g cap:Nat}(hv:v=.slice (some ⟨g,0,none⟩) (n+1) cap)(hr:ac w' 0 3 1 (.slice (some ⟨g,0,none⟩) (n+1) cap) (n+1) (ys++[.int .i64 0]))(hg:w.grownBy w' nv.ownBlock)(ho:nv.ownBlock=some g∨w.heap.size<=g):AJ W0 E b sv ov nv n xs ys (fg l 13) (ef vs 13 v) w':=by
 have c:=h.uj h13;have m:=Cl c rfl hg;have u:∀j,j≠13->fg l 13 j=l j/\ef vs 13 v j=vs j:=(fun j f=>⟨aL f,aO f⟩);refine⟨h.tn.trans m (fun _ _ h=>h) (fun _ _ h=>.inr (.inr h)),fun j f q r s o t a=>?_,?_,fun a=>?_,fun a=>?_,fun _ d=>?_,fun _ d=>?_,fun a=>?_,fun _=>⟨g,cap,bI.trans hv,hr,ho.imp (fun h=>h) (fun d=>zx h.tn.size d)⟩⟩
 ·rw[(u j o).2];rw[(u j o).1]at a;exact h.ev j f q r s o t a
 ·rw[(u 16 (by decide)).1,h16];have i:=h.box;rw[h16]at i;rw[hg.block b (aB i) (fun p=>?_)]
  ·exact i
  obtain⟨_,c2,e⟩:=c.block b p.symm;rw[i]at e;cases e
 ·rw[(u 7 (by decide)).1,h7]at a;cases a
 ·rw[cJ]at a;cases a
 ·rw[(u 7 (by decide)).1,h7]at d;cases d
 ·rw[cJ]at d;cases d
 rw[(u 7 (by decide)).2];obtain⟨x,y,z,e,A⟩:=h.f7 h7
 exact⟨x,y,z,e.mi hg (fun k B F p=>by
  obtain⟨_,c2,e⟩:=c.block k F;rw[p]at e;cases e),A⟩
theorem AJ.s16(h:AJ W0 E b sv ov nv n xs ys l vs w)(h7:l 7=true)(h13:l 13=true)(h16:l 16=false)(v:Value):AJ W0 E b sv ov nv n xs ys (fg l 16) (ef vs 16 v) (w.setCell ⟨b,1,none⟩ (vs 7)):=by
 have o:=h.box;rw[h16]at o;have d:=y7 w b 1 _ 125 (vs 7) o;have f:∀q,q≠b->(w.setCell ⟨b,1,none⟩ (vs 7)).heap[q]?=w.heap[q]?:=(fun q g=>y9 w ⟨b,1,none⟩ q (vs 7) g);have r:Tn (fun q=>q=b) w (w.setCell ⟨b,1,none⟩ (vs 7)):=Tn.bt ⟨rfl,rfl,rfl,xn (by simp),fun q _ B=>f q B⟩ (fun q _ g=>by have g:q=b:=g;subst g;exact .inl ⟨_,125,o,rfl⟩)
 have nb:∀{base size m:Nat} {e:TypeId} {v:Value} {zs:List Value},ac w base e size v m zs->e≠125->ac (w.setCell ⟨b,1,none⟩ (vs 7)) base e size v m zs:=fun A F=>A.of (fun k G=>f k (fun H=>by
  obtain⟨_,c2,c⟩:=A.block k G;rw[H,o]at c;cases c;exact F rfl))
 have u:∀j,j≠16->fg l 16 j=l j/\ef vs 16 v j=vs j:=(fun j p=>⟨aL p,aO p⟩);refine⟨h.tn.trans r (fun _ _ h=>h) (fun _ _ h=>.inl h),fun j p I J L M s a=>?_,?_,fun a=>?_,fun a=>?_,fun _ i=>?_,fun _ i=>?_,fun a=>?_,fun a=>?_⟩
 ·rw[(u j s).2];rw[(u j s).1]at a;exact h.ev j p I J L M s a
 ·rw[cJ,zw rfl,(u 7 (by decide)).2,d];rfl
 ·rw[(u 7 (by decide)).1,h7]at a;cases a
 ·rw[(u 13 (by decide)).1,h13]at a;cases a
 ·rw[(u 7 (by decide)).1,h7]at i;cases i
 ·rw[(u 13 (by decide)).1,h13]at i;cases i
 ·rw[(u 7 (by decide)).2];obtain⟨t,x,y,c,z⟩:=h.f7 h7;exact⟨t,x,y,nb c (by decide),z⟩
 rw[(u 13 (by decide)).2];obtain⟨t,x,y,c,z⟩:=h.f13 h13;exact⟨t,x,y,nb c (by decide),z⟩
end
theorem yK{w:World}{b k:Nat}{cs:Array Value}{v:Value}(hb:w.heap[b]?=some (.cells cs 125)):Tn (fun q=>q=b) w (w.setCell ⟨b,k,none⟩ v)/\(∀{base size m:Nat} {e:TypeId} {u:Value} {zs:List Value},ac w base e size u m zs->e≠125->ac (w.setCell ⟨b,k,none⟩ v) base e size u m zs):=by
 have a:∀q,q≠b->(w.setCell ⟨b,k,none⟩ v).heap[q]?=w.heap[q]?:=fun q c=>y9 w ⟨b,k,none⟩ q v c
 refine⟨Tn.bt ⟨rfl,rfl,rfl,xn (by simp),fun q _ g=>a q g⟩ (fun q _ c=>by have c:q=b:=c;subst c;exact .inl ⟨_,125,hb,rfl⟩),fun d h=>d.of (fun k i=>a k (fun j=>by
  obtain⟨_,c2,f⟩:=d.block k i;rw[j,hb]at f;cases f;exact h rfl))⟩
section
variable{W w:World}{b:Nat}{ts:List T}{tt:List RT}{i:NI}{O:Nat->Nat}{t:T}{cv dv:Value}
theorem FT(h:im W b ts tt i O)(hi:ls ts)(hT:dw W cv dv t)(hsm:t6 t)(hyes:dg ts t=0)(h0:0<t.cols.length)(hc:t.cols.length<=1000)(h8:ts.length<=1000):Calls prog 55 #[.pointer (some ⟨b,0,none⟩),.agg #[.string t.nm,cv,.string t.key,dv]] W fun e w'=>e=.returned (.int .i64 0)/\∃i' O',im w' b (ts++[bj t]) (tt++[uo]) i' O'/\Ext W O O'/\Tn (fun q=>O q≠0/\O q<=4) W w':=by
 obtain⟨pc,kc,rfl,_,_⟩:=hT.1.slice;obtain⟨pd,kd,rfl,_,_⟩:=hT.2.slice;obtain⟨nc,b4⟩:=ae t.cols.length;obtain⟨nd,b5⟩:=ae t.deps.length;obtain⟨nm,Q⟩:=ae t.nm;obtain⟨key,z⟩:=ae t.key;have R:=aD W (.cells #[.string nm,.slice pc nc kc,.string key,.slice pd nd kd] 60);have hV:=z7 W (.cells #[.string nm,.slice pc nc kc,.string key,.slice pd nd kd] 60);have b6:=hT.kp (Tn.of_below (S:=fun _=>False) R).qu;have h1:=h.later R;obtain⟨w1,c6⟩:=ae (W.alloc (.cells #[.string nm,.slice pc nc kc,.string key,.slice pd nd kd] 60));obtain⟨V,U⟩:=ae W.heap.size;rw[c6]at R hV b6 h1;rw[U]at hV;obtain⟨ps,cs,A,_,_⟩:=h1.form.isslice;obtain⟨po,co,X,_,_⟩:=h1.outer.isslice;obtain⟨pn,cn,Y,_,_⟩:=h1.nxs.isslice;have A:i.sv=.slice ps ts.length cs:=A;have X:i.ov=.slice po ts.length co:=X;have Y:i.nv=.slice pn ts.length cn:=Y;obtain⟨n,hn⟩:=ae ts.length;rw[hn]at A X Y
 have B:∀w,Below w1.heap.size w1 w->Calls prog 90 #[.slice ps n cs,.agg #[.string nm,.slice pc nc kc,.string key,.slice pd nd kd]] w fun e w'=>e=.returned (.int .i64 0)/\Below w.heap.size w w':=fun w hw=>by
  have:=Fr (b6.kp (Tn.of_below (S:=fun _=>False) hw).qu) (h1.later hw).um hi hsm
  rw[Q,z,b4,b5,hyes,A]at this;exact this
 have b9:∀w,Below w1.heap.size w1 w->Calls prog 91 #[.agg #[.string nm,.slice pc nc kc,.string key,.slice pd nd kd]] w fun e w'=>∃p1 c1,e=.returned (.agg #[.string nm,.slice p1 nc c1,.string key,.slice pd nd kd])/\dw w' (.slice p1 nc c1) (.slice pd nd kd) (bj t)/\Below w.heap.size w w':=fun w hw=>by
  have:=oH (b6.kp (Tn.of_below (S:=fun _=>False) hw).qu) hc h0
  rw[Q,z,b4,b5]at this;exact this
 have Z:=h1.box;rw[A]at Z
 have g2:∀q,(Value.slice ps n cs).ownBlock=some q->q<V:=fun q s=>by
  rw[<-U];exact(ac.lt h.form q (A▸s)).2
 have g3:b<V:=(by rw[<-U];exact aB h.box);have HA:=aa B;have HF:=aa b9;have HV:=aa (ab hV (ab R (ab Z (ab g2 g3))));have HW:=aa (ab c6 U);have E:=aa (ab A (ab X (ab Y hn)));have H1:=aa h1;have HH:=aa h;have HN:=aa (ab Q z);have g9:=aa h8;rw[Q,z,b4,b5];clear h h1 hT b6 hsm hV R B b9 hyes c6 U Q z b4 b5 hi A X Y hn Z hc h0 h8 g2 g3;go_enter func55,ntmps55;go_upto_region 1 with fail;rw[HW.1,HW.2];refine Par.ag 5 [.pointer (some ⟨b,0,none⟩),.pointer (some ⟨b,0,none⟩),.pointer (some ⟨b,0,none⟩),.slice ps n cs,.agg #[.string nm,.slice pc nc kc,.string key,.slice pd nd kd]] (fun w=>Below w1.heap.size w1 w) ?A1 ?hm1 ?hB1 ?hA1 (aG w1) ?hop1 ?hT1
 case hm1=>kernel_rfl
 case hB1=>kernel_rfl
 case hA1 =>
  simp only[Par.am,Par.ai,Act.put,eh,ez,dz,eo,ew,ey,ed,ic,gy];rfl
 case hop1 =>
  simp only[en,zh,Par.ah,yo];and_intros<;>intro w' N<;>have HR:=aa N
  rotate_left 2;have zl:=aB (aE N HV.2.2.1);rotate_left;have x0:=aA (aE N HV.2.2.1) 0;rotate_left;have x0:=aA (aE N HV.1) 0;have x1:=aA (aE N HV.1) 1;have x2:=aA (aE N HV.1) 2;have x3:=aA (aE N HV.1) 3;rotate_left
  all_goals(clear N;simp only[Par.Gives];go_simp;all_goals exact HR.out)
 intro w' N;simp only[ex,ye];have HR:=aa N;have B:=HA.out w' N;clear N;go_upto_region 4 with (go_at_call 90;(with_reducible refine B.mono ?_);rintro e w4⟨rfl,hD⟩;have H4:=aa (aC HR.out hD);clear B hD);have h4:=H1.out.later H4.out
 have HX:Hid (∀w,w4.grownBy w (Value.slice ps n cs).ownBlock->w.cell? ⟨b,0,none⟩=some (.slice ps n cs)/\b<w.heap.size/\w.heap[b]?=some (.cells #[.slice ps n cs,i.ov,i.nv] 125)/\w.cell? ⟨V,0,none⟩=some (.string nm)/\w.cell? ⟨V,1,none⟩=some (.slice pc nc kc)/\w.cell? ⟨V,2,none⟩=some (.string key)/\w.cell? ⟨V,3,none⟩=some (.slice pd nd kd)):=aa (fun w hg=>by
  have kb:=aE H4.out HV.2.2.1;have kv:=aE H4.out HV.1
  have hb:=(hg.block b (aB kb) (fun e=>by
   obtain⟨_,c2,H⟩:=h4.form.block b (by rw[E.1];exact e.symm);rw[kb]at H;cases H)).trans kb
  have hv:=(hg.block V (aB kv) (fun e=>by have:=HV.2.2.2.1 V e.symm;omega)).trans kv;exact⟨aA hb 0,aB hb,hb,aA hv 0,aA hv 1,aA hv 2,aA hv 3⟩)
 have a0:Hid (ac w4 0 60 4 (.slice ps n cs) n (fp i.fs ts)):=aa (by
  have:=h4.form
  rw[E.1,E.2.2.2]at this;exact this)
 have c9:=aa h4;have d6:n+1<=1000000:=(by have:=g9.out;have:=E.2.2.2;omega);clear h4;refine Par.bo 11 (FJ w4 (fun d7=>[.pointer (some ⟨b,0,none⟩),.pointer (some ⟨b,0,none⟩),.pointer (some ⟨b,0,none⟩),.pointer (some ⟨b,0,none⟩),.slice ps n cs,.agg #[.string nm,.slice pc nc kc,.string key,.slice pd nd kd],undef,undef,undef,.pointer (some ⟨b,0,none⟩),.pointer (some ⟨b,0,none⟩)].getD d7 undef) (.slice ps n cs) n (fp i.fs ts) nm key nc (.slice pd nd kd) (bj t)) ?AA ?hmA ?hBA ?hAA ?hJA ?hopA ?hTA
 case hmA=>kernel_rfl
 case hBA=>kernel_rfl
 case hAA =>
  intro vs;simp only[Par.am,Par.ai,Act.put,eh,ez,dz,eo,ew,ey,ed];rfl
 case hJA =>
  intro vs;have j:=aG w4;exact⟨jL j,fun _=>j,fun _ _ h=>(by cases h),fun h=>(by cases h),fun h=>(by cases h),fun h=>(by cases h)⟩
 case hopA =>
  simp only[en,zh,Par.ce,yo];and_intros<;>intro l vs w a r j f
  ·have m:=aa a;obtain⟨x0,u,o,x1,x2,x3,x4⟩:=HX.out w a.gb;clear o;clear a j f;simp only[Par.af];go_simp;all_goals exact m.out.up 0 (by decide)
  ·have m:=aa a;obtain⟨x0,u,o,x1,x2,x3,x4⟩:=HX.out w a.gb;clear o;clear a j f;simp only[Par.af];go_simp;all_goals exact m.out.up 1 (by decide)
  ·have m:=aa a;obtain⟨x0,u,o,x1,x2,x3,x4⟩:=HX.out w a.gb;clear o;have d1:vs 1=.pointer (some ⟨b,0,none⟩):=a.ev 1 (by decide) (j 1 (by kernel_rfl));clear a j f;simp only[Par.af,d1];go_simp;all_goals exact m.out.up 2 (by decide)
  ·have m:=aa a;obtain⟨x0,u,o,x1,x2,x3,x4⟩:=HX.out w a.gb;clear o;have d2:vs 2=.pointer (some ⟨b,0,none⟩):=a.ev 2 (by decide) (j 2 (by kernel_rfl));clear a j f;simp only[Par.af,d2];go_simp;all_goals exact m.out.up 3 (by decide)
  ·have m:=aa a;obtain⟨x0,u,o,x1,x2,x3,x4⟩:=HX.out w a.gb;clear o;have d3:vs 3=.pointer (some ⟨b,0,none⟩):=a.ev 3 (by decide) (j 3 (by kernel_rfl));clear a j f;simp only[Par.af,d3];go_simp;all_goals exact m.out.up 4 (by decide)
  ·have m:=aa a;obtain⟨x0,u,o,x1,x2,x3,x4⟩:=HX.out w a.gb;clear o;clear a j f;simp only[Par.af];go_simp;all_goals exact m.out.up 5 (by decide)
  ·have P:l 7=false:=(by cases h:l 7 with|false=>rfl|true=>exact absurd (f 7 6 (by kernel_rfl) h) (by simp[r]));have h8:l 8=false:=(by cases h:l 8 with|false=>rfl|true=>exact absurd (f 8 7 (by kernel_rfl) h) (by simp[P]));have m:=aa a;have d5:vs 5=.agg #[.string nm,.slice pc nc kc,.string key,.slice pd nd kd]:=a.ev 5 (by decide) (j 5 (by kernel_rfl));have hc:=HF.out w (aC H4.out (a.f0 h8));clear a j f;simp only[Par.af,d5];go_simp;refine hc.mono ?_;rintro e y⟨p1,c1,rfl,hr,hb⟩;exact⟨_,rfl,m.out.s6 P h8 hr hb⟩
  ·have h8:l 8=false:=(by cases h:l 8 with|false=>rfl|true=>exact absurd (f 8 7 (by kernel_rfl) h) (by simp[r]));have h6:=j 6 (by kernel_rfl);obtain⟨p1,c1,e6,hr⟩:=a.f6 h6 h8;have m:=aa (a.s7 h8 e6 hr);clear a j f hr;simp only[Par.af,e6];go_simp;all_goals exact m.out
  ·have P:=j 7 (by kernel_rfl);obtain⟨p1,c1,g0,e6,hr,e7,hh⟩:=a.f7 P r;have d4:vs 4=.slice ps n cs:=a.ev 4 (by decide) (j 4 (by kernel_rfl))
   obtain⟨g,cg,w6,F,a8,a9,G⟩:=qL (ty:=122) underlying122 Fe rfl (by decide) (by decide) w 0 (a0.out.later (a.f0 r)) d6 (zj _) g0 _ hh rfl (by
    intro x hx;simp only[xy,vk,or_false]at hx;rcases hx with rfl|rfl|rfl|rfl <;> rfl)
   exact Par.fq rfl (.tmp 19) (.tmp 22) 122 122 rfl d4 e7 F (a.s8 r hr a0.out rfl a8 a9 G)
  ·have m:=aa a;obtain⟨x0,u,o,x1,x2,x3,x4⟩:=HX.out w a.gb;clear o;have d0:vs 0=.pointer (some ⟨b,0,none⟩):=a.ev 0 (by decide) (j 0 (by kernel_rfl));clear a j f;simp only[Par.af,d0];go_simp;all_goals exact m.out.up 9 (by decide)
  have m:=aa a;obtain⟨x0,u,o,x1,x2,x3,x4⟩:=HX.out w a.gb;clear o;have d9:vs 9=.pointer (some ⟨b,0,none⟩):=a.ev 9 (by decide) (j 9 (by kernel_rfl));clear a j f;simp only[Par.af,d9];go_simp;all_goals exact m.out.up 10 (by decide)
 intro l vs w6 r a;simp only[ex,ye];have e5:vs 10=.pointer (some ⟨b,0,none⟩):=a.ev 10 (by decide) (r 10 (by decide));obtain⟨g8,c8,p1,c1,e8,r8,s8,t8⟩:=a.f8 (r 8 (by decide));obtain⟨x0,u,o,_⟩:=HX.out w6 a.gb;have xf:w6.frozen? ⟨b,0,none⟩=false:=zq w6 b 0 _ _ o;have p:=y7 w6 b 0 _ 125 (.slice (some ⟨g8,0,none⟩) (n+1) c8) o;obtain⟨b0,J⟩:=yK (k:=0) (v:=.slice (some ⟨g8,0,none⟩) (n+1) c8) o
 have c0:=yJ a.gb (fun q s=>by
  obtain⟨_,e9,e⟩:=a0.out.block q s;exact⟨e9,e⟩)
 have G:ac w6 0 159 1 i.ov n (tt.map (·.rv)):=by
  have:=c9.out.outer
  rw[E.2.2.2]at this
  exact this.mi a.gb (fun k e9 e1 e2=>by
   obtain⟨_,c2,H⟩:=a0.out.block k e1;rw[e2]at H;cases H)
 have g4:ac w6 0 3 1 i.nv n (tt.map fun x=>Value.int .i64 (x.nx:Int)):=by
  have:=c9.out.nxs
  rw[E.2.2.2]at this
  exact this.mi a.gb (fun k e9 e1 e2=>by
   obtain⟨_,c2,H⟩:=a0.out.block k e1;rw[e2]at H;cases H)
 have f1:=J r8 (by decide);have o7:=J G (by decide);have n7:=J g4 (by decide);have f2:=t8.kp b0.qu;have I:=c0.trans b0 (T1:=fun q=>q=b∨(Value.slice ps n cs).ownBlock=some q) (fun _ _ h=>.inr h) (fun _ _ h=>.inl h);rw[E.2.1]at o7 p;rw[E.2.2.1]at n7 p;obtain⟨w7,f3⟩:=ae (w6.setCell ⟨b,0,none⟩ (.slice (some ⟨g8,0,none⟩) (n+1) c8));rw[f3]at f1 o7 n7 f2 I p;have p:w7.heap[b]?=some (.cells #[.slice (some ⟨g8,0,none⟩) (n+1) c8,.slice po n co,.slice pn n cn] 125):=p;have H7:=aa (ab f1 (ab o7 (ab n7 (ab f2 (ab I (ab p s8))))));have h2:=aa f3;rw[e8,e5];clear a r e8 r8 s8 t8 o p b0 J c0 G g4 f1 o7 n7 f2 I f3;go_upto_region 5 with fail;rw[h2.out];clear x0 xf u;refine Par.bo 17 (AJ w7 (fun d7=>[.pointer (some ⟨b,0,none⟩),.pointer (some ⟨b,0,none⟩),.pointer (some ⟨b,0,none⟩),.pointer (some ⟨b,0,none⟩),.pointer (some ⟨b,1,none⟩),.slice po n co,undef,undef,.pointer (some ⟨b,0,none⟩),.pointer (some ⟨b,0,none⟩),.pointer (some ⟨b,2,none⟩),.slice pn n cn,undef,undef,.pointer (some ⟨b,0,none⟩),.pointer (some ⟨b,1,none⟩),undef].getD d7 undef) b (.slice (some ⟨g8,0,none⟩) (n+1) c8) (.slice po n co) (.slice pn n cn) n (tt.map (·.rv)) (tt.map fun x=>Value.int .i64 (x.nx:Int))) ?AB ?hmB ?hBB ?hAB ?hJB ?hopB ?hTB
 case hmB=>kernel_rfl
 case hBB=>kernel_rfl
 case hAB =>
  intro vs;simp only[Par.am,Par.ai,Act.put,eh,ez,dz,eo,ew,ey,ed];rfl
 case hJB =>
  intro vs;have j:=aG w7;obtain⟨a1,a2,a3,a4,a5,a6,a7⟩:=H7.out;exact⟨Tn.of_below j,fun _ _ _ _ _ _ _ h=>(by cases h),aE j a6,fun _=>a2.later j,fun _=>a3.later j,fun h=>(by cases h),fun h=>(by cases h),fun h=>(by cases h),fun h=>(by cases h)⟩
 case hopB =>
  simp only[en,zh,Par.ce,yo];and_intros<;>intro l vs w a r j f
  ·have m:=aa a;have u:=aB a.box;clear a j f;simp only[Par.af];go_simp;all_goals exact m.out.up 0 (by decide)
  ·have m:=aa a;have u:=aB a.box;clear a j f;simp only[Par.af];go_simp;all_goals exact m.out.up 1 (by decide)
  ·have m:=aa a;have u:=aB a.box;clear a j f;simp only[Par.af];go_simp;all_goals exact m.out.up 2 (by decide)
  ·have m:=aa a;have u:=aB a.box;have d2:vs 2=.pointer (some ⟨b,0,none⟩):=a.ev 2 (by decide) (by decide) (by decide) (by decide) (by decide) (by decide) (j 2 (by kernel_rfl));clear a j f;simp only[Par.af,d2];go_simp;all_goals exact m.out.up 3 (by decide)
  ·have m:=aa a;have u:=aB a.box;have d3:vs 3=.pointer (some ⟨b,0,none⟩):=a.ev 3 (by decide) (by decide) (by decide) (by decide) (by decide) (by decide) (j 3 (by kernel_rfl));clear a j f;simp only[Par.af,d3];go_simp;all_goals exact m.out.up 4 (by decide)
  ·have m:=aa a;have P:l 7=false:=(by cases h:l 7 with|false=>rfl|true=>exact absurd (f 7 5 (by kernel_rfl) h) (by simp[r]));have L:l 16=false:=(by cases h:l 16 with|false=>rfl|true=>exact absurd (f 16 7 (by kernel_rfl) h) (by simp[P]));have b7:=a.box;rw[L]at b7;have u:=aB b7;have x1:w.cell? ⟨b,1,none⟩=some (.slice po n co):=aA b7 1;clear b7 P L;have d4:vs 4=.pointer (some ⟨b,1,none⟩):=a.ev 4 (by decide) (by decide) (by decide) (by decide) (by decide) (by decide) (j 4 (by kernel_rfl));clear a j f;simp only[Par.af,d4];go_simp;all_goals exact m.out.up 5 (by decide)
  ·have P:l 7=false:=(by cases h:l 7 with|false=>rfl|true=>exact absurd (f 7 6 (by kernel_rfl) h) (by simp[r]));have m:=aa (a.s6 P);clear a j f;simp only[Par.af];go_simp;all_goals exact m.out
  ·have b1:l 13=false:=(by cases h:l 13 with|false=>rfl|true=>exact absurd (f 13 7 (by kernel_rfl) h) (by simp[r]));have L:l 16=false:=(by cases h:l 16 with|false=>rfl|true=>exact absurd (f 16 7 (by kernel_rfl) h) (by simp[r]));obtain⟨g0,e6,hh,_⟩:=a.f6 (j 6 (by kernel_rfl)) r;have d5:vs 5=.slice po n co:=a.ev 5 (by decide) (by decide) (by decide) (by decide) (by decide) (by decide) (j 5 (by kernel_rfl))
   obtain⟨g,cg,w6,F,a8,a9,G⟩:=qL (ty:=123) underlying123 Ir rfl (by decide) (by decide) w 0 (a.r7 r) d6 (zj _) g0 _ hh rfl (by
    intro x hx;simp only[xy,vk,or_false]at hx;rcases hx with rfl;rfl)
   exact Par.fq rfl (.tmp 31) (.tmp 32) 123 123 rfl d5 e6 F (a.s7 r b1 L rfl a8 a9 G)
  ·have m:=aa a;have u:=aB a.box;clear a j f;simp only[Par.af];go_simp;all_goals exact m.out.up 8 (by decide)
  ·have m:=aa a;have u:=aB a.box;have d8:vs 8=.pointer (some ⟨b,0,none⟩):=a.ev 8 (by decide) (by decide) (by decide) (by decide) (by decide) (by decide) (j 8 (by kernel_rfl));clear a j f;simp only[Par.af,d8];go_simp;all_goals exact m.out.up 9 (by decide)
  ·have m:=aa a;have u:=aB a.box;have d9:vs 9=.pointer (some ⟨b,0,none⟩):=a.ev 9 (by decide) (by decide) (by decide) (by decide) (by decide) (by decide) (j 9 (by kernel_rfl));clear a j f;simp only[Par.af,d9];go_simp;all_goals exact m.out.up 10 (by decide)
  ·have m:=aa a;have u:=aB a.box;have x2:w.cell? ⟨b,2,none⟩=some (.slice pn n cn):=aA a.box 2;have e5:vs 10=.pointer (some ⟨b,2,none⟩):=a.ev 10 (by decide) (by decide) (by decide) (by decide) (by decide) (by decide) (j 10 (by kernel_rfl));clear a j f;simp only[Par.af,e5];go_simp;all_goals exact m.out.up 11 (by decide)
  ·have b1:l 13=false:=(by cases h:l 13 with|false=>rfl|true=>exact absurd (f 13 12 (by kernel_rfl) h) (by simp[r]));have m:=aa (a.s12 b1);clear a j f;simp only[Par.af];go_simp;all_goals exact m.out
  ·have L:l 16=false:=(by cases h:l 16 with|false=>rfl|true=>exact absurd (f 16 13 (by kernel_rfl) h) (by simp[r]));obtain⟨g0,h3,hh,_⟩:=a.f12 (j 12 (by kernel_rfl)) r;have h5:vs 11=.slice pn n cn:=a.ev 11 (by decide) (by decide) (by decide) (by decide) (by decide) (by decide) (j 11 (by kernel_rfl))
   obtain⟨g,cg,w6,F,a8,a9,G⟩:=qL (ty:=40) underlying40 Ht rfl (by decide) (by decide) w 0 (a.uj r) d6 (zj _) g0 _ hh rfl (by
    intro x hx;simp only[xy,vk,or_false]at hx;rcases hx with rfl;rfl)
   exact Par.fq rfl (.tmp 37) (.tmp 38) 40 40 rfl h5 h3 F (a.s13 (j 7 (by kernel_rfl)) r L rfl a8 a9 G)
  ·have m:=aa a;have u:=aB a.box;have d0:vs 0=.pointer (some ⟨b,0,none⟩):=a.ev 0 (by decide) (by decide) (by decide) (by decide) (by decide) (by decide) (j 0 (by kernel_rfl));clear a j f;simp only[Par.af,d0];go_simp;all_goals exact m.out.up 14 (by decide)
  ·have m:=aa a;have u:=aB a.box;have h9:vs 14=.pointer (some ⟨b,0,none⟩):=a.ev 14 (by decide) (by decide) (by decide) (by decide) (by decide) (by decide) (j 14 (by kernel_rfl));clear a j f;simp only[Par.af,h9];go_simp;all_goals exact m.out.up 15 (by decide)
  have i0:vs 15=.pointer (some ⟨b,1,none⟩):=a.ev 15 (by decide) (by decide) (by decide) (by decide) (by decide) (by decide) (j 15 (by kernel_rfl));have P:=j 7 (by kernel_rfl);have b1:=j 13 (by kernel_rfl);obtain⟨g7,c7,e7,_,_⟩:=a.f7 P;have o:=a.box;have u:=aB o;have xf:w.frozen? ⟨b,1,none⟩=false:=zq w b 1 _ _ o;have x1:=aA o 1;have m:=aa (a.s16 P b1 r undef);rw[e7]at m;clear a j f o;simp only[Par.af,i0,e7];go_simp;all_goals exact m.out
 intro l vs w8 r a;simp only[ex,ye];have d1:vs 1=.pointer (some ⟨b,0,none⟩):=a.ev 1 (by decide) (by decide) (by decide) (by decide) (by decide) (by decide) (r 1 (by decide));obtain⟨g7,c7,e7,r7,s7⟩:=a.f7 (r 7 (by decide));obtain⟨f4,f5,g5,uj,b8⟩:=a.f13 (r 13 (by decide));have o:=a.box;rw[r 16 (by decide),zw rfl,e7]at o;have u:=aB o;have xf:w8.frozen? ⟨b,2,none⟩=false:=zq w8 b 2 _ _ o;have x2:=aA o 2;have M:=a.tn;have H8:=aa (ab r7 (ab s7 (ab uj (ab b8 (ab o M)))));rw[d1,g5];clear a r e7 r7 s7 uj b8 o M d1 g5;go_wp2_with fail;go_ret;obtain⟨r7,s7,uj,b8,o,M⟩:=H8.out;obtain⟨a1,a2,a3,a4,a5,a6,a7⟩:=H7.out;have g1:=y7 w8 b 2 _ 125 (.slice (some ⟨f4,0,none⟩) (n+1) f5) o;obtain⟨c4,b2⟩:=yK (k:=2) (v:=.slice (some ⟨f4,0,none⟩) (n+1) f5) o
 have f8:ac w8 0 60 4 (.slice (some ⟨g8,0,none⟩) (n+1) c8) (n+1) (fp i.fs ts++[.string nm,.slice p1 nc c1,.string key,.slice pd nd kd]):=a1.of (fun k hk=>by
  obtain⟨_,c2,H⟩:=a1.block k hk;refine M.chg.block k (aB H) (fun hS=>?_);rcases hS with e|e|e
  ·rw[e,a6]at H;cases H
  ·obtain⟨_,c3,q3⟩:=a2.block k e;rw[q3]at H;cases H
  obtain⟨_,c3,q3⟩:=a3.block k e;rw[q3]at H;cases H)
 have f9:=b2 f8 (by decide);have o9:=b2 r7 (by decide);have n9:=b2 uj (by decide);have t9:=a4.kp (M.trans c4 (T1:=fun _=>True) (fun _ _ _=>trivial) (fun _ _ _=>trivial)).qu;have hD:=c9.out;have e2:=hD.o2;have e3:=hD.o3;have e4:=hD.o4;rw[E.1]at e2;rw[E.2.1]at e3;rw[E.2.2.1]at e4;have e1:=hD.o1;have k1:∀q,q=b->O q≠0/\O q<=4:=fun q s=>by rw[s,e1];decide
 have b3:Tn (fun q=>O q≠0/\O q<=4) w4 (w8.setCell ⟨b,2,none⟩ (.slice (some ⟨f4,0,none⟩) (n+1) f5)):=
  (a5.trans M (T1:=fun q=>O q≠0/\O q<=4) (fun q _ s=>s.elim (k1 q) (fun s=>by rw[e2 q s];decide)) (fun q _ s=>s.elim (k1 q) (fun s=>s.elim (fun s=>by rw[e3 q s];decide) (fun s=>by rw[e4 q s];decide)))).trans c4 (fun _ _ h=>h) (fun q _ s=>k1 q s)
 have c5:=hD.addtab (t:=bj t) (c:=.slice p1 nc c1) (d:=.slice pd nd kd) g1 b3 (by rw[E.2.2.2];exact HN.1▸HN.2▸f9) t9 (by rw[E.2.2.2];exact o9) (by rw[E.2.2.2];exact n9)
  (fun q s=>by rw[E.1];cases s;exact a7) (fun q s=>by rw[E.2.1];cases s;exact s7.imp id (fun h=>zx a5.size h)) (fun q s=>by rw[E.2.2.1];cases s;exact b8.imp id (fun h=>zx a5.size h))
 have g6:=aC HV.2.1 H4.out;exact⟨rfl,_,_,c5.1,fun q s=>c5.2 q (z9 s g6.size),(Tn.of_below (S:=fun q=>O q≠0/\O q<=4) g6).trans b3 (fun _ _ h=>h) (fun _ _ h=>h)⟩
end
theorem nB{W:World}{d:Nat}{ts:List T}{st:List DT}{O:Nat->Nat}(h:Dd W d ts st O)(hi:ls ts)(hfew:bs ts)(hsz:Short ts){v:Value}(x:ByteArray){id:Int}{p:List ByteArray}(hid:lg id)(hp:Wd W v p):Calls prog 17 #[.pointer (some ⟨d,0,none⟩),.string x,.int .i64 id,v] W fun e w'=>e=.returned (.tuple #[.agg #[.int .i64 ((ay ts (rowsOf st) x id p).1.1),.int .i64 ((ay ts (rowsOf st) x id p).1.2.1),.string ((ay ts (rowsOf st) x id p).1.2.2)],.bool (ay ts (rowsOf st) x id p).2])/\Below W.heap.size W w':=by
 by_cases a:(et ts x p).2.2=0
 ·exact wB h hi hfew hsz hid hp a
 have e:ay ts (rowsOf st) x id p=(z3,false):=by
  unfold ay;rw[zu (fun h=>a h.1)]
 rw[e];obtain⟨mv,b⟩:=h.sp;exact G4 (fun w c=>aY (h.later c).dlt) b hp a
