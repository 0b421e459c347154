import Derived.Test.YthlccadnojnkaaaGreatZn39
set_option maxHeartbeats 8000000
set_option maxRecDepth 100000
namespace Go.Proofs.YthlccadnojnkaaaGreat
open Go.Proofs.Tryz
open Go Go.RowKit Go.Proofs Co Co.S Par
theorem eb.lit{w:World}{g:Nat}{l:List T3}{cs:Array Value}(h:w.heap[g]?=some (.cells cs 32))(hcs:cs.toList=cells3 l)(hl:l.length<=maxLen):eb (fun q=>q=g) w (.slice (some ⟨g,0,none⟩) l.length l.length) l:=by
 refine⟨_,_,rfl,zm _,hl,fun _=>⟨g,0,rfl,aC h,rfl,fun j u a=>?_⟩⟩
 have:=aA h j
 rw[xq,this,<-a,<-hcs,Array.getElem?_toList]
theorem Wd.lits{w:World}{g:Nat}{l:List ByteArray}{cs:Array Value}(h:w.heap[g]?=some (.cells cs 9))(hcs:cs.toList=l.map Value.string)(hl:l.length<=maxLen):Wd w (.slice (some ⟨g,0,none⟩) l.length l.length) l:=by
 refine⟨_,_,rfl,zm _,hl,fun a h=>(by cases h;rfl),fun _=>⟨g,0,cs,(0,0),rfl,h,fun j b=>?_⟩⟩;rw[xq,<-Array.getElem?_toList,hcs,xm,z6 b];rfl
structure JI (K:Nat->Prop) (W0 wS:World) (d b:Nat) (ts:List T) (ps:List Nat) (L1 L2:List PT) (E:Nat->Value) (iS iI:Nat) (vals:List T3) (l:Nat->Bool) (vs:Nat->Value) (w:World):Prop where
 ev:∀j,j≠iS->l j=true->vs j=E j
 pre:l iI=false->Below wS.heap.size wS w
 row:l iI=false->l iS=true->∃g,vs iS=.slice (some ⟨g,0,none⟩) vals.length vals.length/\w.heap[g]?=some (.cells (cells3 vals).toArray 32)/\wS.heap.size<=g
 post:l iI=true->PD K W0 w d b ts ps L1 L2
section
variable {K:Nat->Prop}{W0 wS w w':World}{d b:Nat}{ts:List T}{ps:List Nat}{L1 L2:List PT}{E:Nat->Value}{iS iI:Nat}{vals:List T3}{l:Nat->Bool}{vs:Nat->Value}
theorem JI.up(h:JI K W0 wS d b ts ps L1 L2 E iS iI vals l vs w)(i:Nat)(h1:i≠iS)(h2:i≠iI):JI K W0 wS d b ts ps L1 L2 E iS iI vals (fq l i) (fk vs i (E i)) w:=by
 refine⟨fun j f a=>?_,fun a=>h.pre ?_,fun a c=>?_,fun a=>h.post ?_⟩
 ·by_cases e:j=i
  ·subst e;rw[aS]
  rw[aJ e];rw[aI e]at a;exact h.ev j f a
 ·rwa [aI (fun e=>h2 e.symm)]at a
 ·rw[aJ (fun e=>h1 e.symm)];exact h.row (by rwa [aI (fun e=>h2 e.symm)]at a) (by rwa [aI (fun e=>h1 e.symm)]at c)
 rwa [aI (fun e=>h2 e.symm)]at a
theorem JI.new(h:JI K W0 wS d b ts ps L1 L2 E iS iI vals l vs w)(hI:l iI=false)(hne:iS≠iI){cs:Array Value}(hcs:cs=(cells3 vals).toArray){n:Nat}(hn:n=vals.length):JI K W0 wS d b ts ps L1 L2 E iS iI vals (fq l iS) (fk vs iS (.slice (some ⟨w.heap.size,0,none⟩) n n)) (w.alloc (.cells cs 32)):=by
 subst hcs hn;refine⟨fun j c a=>?_,fun _=>aB (h.pre hI) (aD w _),fun _ _=>⟨w.heap.size,aS,z7 w _,(h.pre hI).size⟩,fun a=>?_⟩
 ·rw[aJ c];rw[aI c]at a;exact h.ev j c a
 rw[aI (fun e=>hne e.symm),hI]at a;cases a
theorem JI.put(h:JI K W0 wS d b ts ps L1 L2 E iS iI vals l vs w)(hne:iI≠iS)(hP:PD K W0 w' d b ts ps L1 L2):JI K W0 wS d b ts ps L1 L2 E iS iI vals (fq l iI) (fk vs iI (E iI)) w':=by
 refine⟨fun j c a=>?_,fun a=>?_,fun a=>?_,fun _=>hP⟩
 ·by_cases e:j=iI
  ·subst e;rw[aS]
  rw[aJ e];rw[aI e]at a;exact h.ev j c a
 ·rw[bW]at a;cases a
 rw[bW]at a;cases a
theorem pU{L0:List PT}{j m:Nat}(h:PD K W0 wS d b ts ps L0 L2)(hb:Below wS.heap.size wS w)(hj:j<ts.length)(hp:j<ps.length)(hL:j<L0.length){g:Nat}(hg:w.heap[g]?=some (.cells (cells3 vals).toArray 32))(hgS:wS.heap.size<=g)(hm:dw m L0[j])(hm3:m<=590)(hc:ts[j].cols.length<=1000)(hs:∀x∈vals,x.2.2.size<=maxLen)(hl:vals.length<=1000):Calls prog 37 #[.pointer (some ⟨ps[j],0,none⟩),.slice (some ⟨g,0,none⟩) vals.length vals.length] w fun e w'=>e=.returned (.tuple #[.int .i64 (jx ts[j] L0[j] vals),.int .i64 (dj ts[j] vals)])/\PD K W0 w' d b ts ps (L0.set j (gj ts[j] L0[j] vals)) L2:=by
 have c:=h.with hb;refine(c.Bz hj hp hL (eb.lit hg rfl (by unfold maxLen;omega)) (fun q(a:q=g)=>.inr ⟨by omega,by rw[a];exact aC hg⟩) hm hm3 hc hs (by omega)).mono ?_;rintro e w'⟨rfl,f⟩;exact⟨rfl,(h.later hb).back f (fun q a=>.inl a)⟩
end
section
variable {K:Nat->Prop}{W0 w:World}{d b:Nat}{ts:List T}{ps:List Nat}{L1 L2:List PT}
abbrev ms(L:List PT):List (List R1):=L.map (·.2)
theorem nV{st:List DT}{L:List PT}(h:st.map (·.2)=L):rowsOf st=ms L:=by
 subst h;show st.map _=(st.map _).map _;rw[List.map_map];rfl
theorem PD.value(h:PD K W0 w d b ts ps L1 L2)(hi:mh ts)(hfew:di ts)(hsz:Short ts){v:Value}(x:ByteArray){id:Int}{p:List ByteArray}(hid:kj id)(hp:Wd w v p):Calls prog 99 #[.pointer (some ⟨d,0,none⟩),.string x,.int .i64 id,v] w fun e w'=>e=.returned (.tuple #[.agg #[.int .i64 ((ep ts (ms L1) x id p).1.1),.int .i64 ((ep ts (ms L1) x id p).1.2.1),.string ((ep ts (ms L1) x id p).1.2.2)],.bool (ep ts (ms L1) x id p).2])/\Below w.heap.size w w':=by
 obtain⟨f,O,a,_,c⟩:=h.dd;rw[<-nV c];exact xU a hi hfew hsz x hid hp
theorem PD.bykey(h:PD K W0 w d b ts ps L1 L2)(hi:mh ts)(hfew:di ts)(hsz:Short ts)(x:ByteArray)(u:T3):Calls prog 100 #[.pointer (some ⟨d,0,none⟩),.string x,.agg #[.int .i64 u.1,.int .i64 u.2.1,.string u.2.2]] w fun e w'=>e=.returned (.tuple #[.int .i64 ((bg ts (ms L1) x u).getD 0),.bool (bg ts (ms L1) x u).isSome])/\Below w.heap.size w w':=by
 obtain⟨f,O,a,_,c⟩:=h.dd;rw[<-nV c];exact iK a hi hfew hsz x u
end
theorem aO:Short (pre 4):=by
 intro t a;have h:∀t∈pre 4,t.nm.size<=12:=(by decide);exact zw (h t a) (by unfold maxLen;omega)
theorem Dp:∀t∈pre 4,∀c∈t.cols,c.kd=1∨c.kd=2:=by decide
theorem iM:∀t∈pre 4,0<t.cols.length/\t.cols.length<=4:=by decide
end Go.Proofs.YthlccadnojnkaaaGreat
namespace Go.Proofs.YthlccadnojnkaaaGreat
open Go.Proofs.Tryz
open Go Go.RowKit Go.Proofs Co Co.S Par
structure cx where
 dO:Int
 tbl:ByteArray
 id:Int
 col:ByteArray
 vals:List T3
def opC(u:cx)(v:Value):List Value:=[.int .i64 u.dO,.string u.tbl,.int .i64 u.id,.string u.col,v]
def fi(L:List cx)(vs:List Value):List Value:=(L.zip vs).flatMap fun p=>opC p.1 p.2
def fe(u:cx):cx:=⟨u.dO,lq 20 u.tbl,u.id,lq 20 u.col,qx 7 u.vals⟩
def qi(W:World)(p:Option Addr)(L:List cx):Prop:=∀j (hj:j<L.length),∃(b off:Nat) (vv:Value),p=some ⟨b,off,none⟩/\b<W.heap.size/\W.cell? ⟨b,off+j*5,none⟩=some (.int .i64 L[j].dO)/\W.cell? ⟨b,off+j*5+1,none⟩=some (.string L[j].tbl)/\W.cell? ⟨b,off+j*5+2,none⟩=some (.int .i64 L[j].id)/\W.cell? ⟨b,off+j*5+3,none⟩=some (.string L[j].col)/\W.cell? ⟨b,off+j*5+4,none⟩=some vv/\eb (fun q=>q<W.heap.size) W vv L[j].vals/\L[j].tbl.size<=maxLen/\L[j].col.size<=maxLen/\∀x∈L[j].vals,x.2.2.size<=maxLen
def ef(w:World)(base:Nat)(tv:Value)(L:List cx):Prop:=∃sv:List Value,sv.length=L.length/\ac w base 29 5 tv L.length (fi L sv)/\∀j (hj:j<L.length),∃v,sv[j]?=some v/\ac w base 32 3 v L[j].vals.length (cells3 L[j].vals)
theorem uI(L:List cx)(vs:List Value)(u:cx)(v:Value)(h:vs.length=L.length):fi (L++[u]) (vs++[v])=fi L vs++opC u v:=by
 unfold fi;rw[List.zip_append h.symm,List.flatMap_append]
 simp
theorem C7(u:cx)(v:Value)(h:v.oneCell'=true):∀x∈opC u v,x.oneCell'=true:=by
 intro x a;simp only[opC,wg,vz,or_false]at a;rcases a with rfl|rfl|rfl|rfl|rfl
 ·rfl
 ·rfl
 ·rfl
 ·rfl
 exact h
theorem DM:(prog.info? 29).map (fun i=>(i.zero,i.size,i.bytes))=some (some (.agg #[.int .i64 0,.string ⟨#[]⟩,.int .i64 0,.string ⟨#[]⟩,.slice none 0 0]),5,72):=by kernel_rfl
theorem ef.nil{w:World}{base:Nat}:ef w base (.slice none 0 0) []:=⟨[],rfl,ac.nil,fun _ a=>absurd a (yo _)⟩
theorem ef.later{w w':World}{base:Nat}{tv:Value}{L:List cx}(h:ef w base tv L)(hb:Below w.heap.size w w'):ef w' base tv L:=by
 obtain⟨sv,a,b,c⟩:=h;refine⟨sv,a,b.later hb,fun j d=>?_⟩;obtain⟨v,e,r⟩:=c j d;exact⟨v,e,r.later hb⟩
structure OJ (W0:World) (base:Nat) (E:Nat->Value) (rv:Value) (n:Nat) (xs:List Value) (u:cx) (l:Nat->Bool) (vs:Nat->Value) (w:World):Prop where
 gb:W0.grownBy w rv.ownBlock
 f0:l 16=false->Below W0.heap.size W0 w
 ev:∀j,j<13->l j=true->vs j=E j
 f13:l 13=true->∃p c,vs 13=.slice p u.vals.length c/\ac w base 32 3 (vs 13) u.vals.length (cells3 u.vals)
 f14:l 14=true->vs 14=.agg #[.int .i64 u.dO,.string u.tbl,.int .i64 u.id,.string u.col,vs 13]
 f15:l 15=true->l 16=false->∃y,w=y.alloc (.cells #[.int .i64 u.dO,.string u.tbl,.int .i64 u.id,.string u.col,vs 13] 29)/\vs 15=.slice (some ⟨y.heap.size,0,none⟩) 1 1/\Below W0.heap.size W0 y/\∀q,(vs 13).ownBlock=some q->q<y.heap.size
 f16:l 16=true->∃g cap,vs 16=.slice (some ⟨g,0,none⟩) (n+1) cap/\ac w base 29 5 (.slice (some ⟨g,0,none⟩) (n+1) cap) (n+1) (xs++opC u (vs 13))/\(rv.ownBlock=some g∨W0.heap.size<=g)
section
open Par
variable {W0 w w':World}{base:Nat}{E:Nat->Value}{rv:Value}{n:Nat}{xs:List Value}{u:cx}{l:Nat->Bool}{vs:Nat->Value}
theorem OJ.up(h:OJ W0 base E rv n xs u l vs w)(i:Nat)(hi:i<13):OJ W0 base E rv n xs u (fq l i) (fk vs i (E i)) w:=by
 have k:∀j,13<=j->fq l i j=l j/\fk vs i (E i) j=vs j:=(fun j b=>⟨aI (by omega),aJ (by omega)⟩);refine⟨h.gb,fun a=>h.f0 ((k 16 (by omega)).1▸a),fun j b a=>?_,fun a=>?_,fun a=>?_,fun c d=>?_,fun a=>?_⟩
 ·by_cases e:j=i
  ·subst e;rw[aS]
  rw[aJ e];rw[aI e]at a;exact h.ev j b a
 ·rw[(k 13 (by omega)).1]at a;rw[(k 13 (by omega)).2];exact h.f13 a
 ·rw[(k 14 (by omega)).1]at a;rw[(k 14 (by omega)).2,(k 13 (by omega)).2];exact h.f14 a
 ·rw[(k 15 (by omega)).1]at c;rw[(k 16 (by omega)).1]at d;rw[(k 15 (by omega)).2,(k 13 (by omega)).2];exact h.f15 c d
 rw[(k 16 (by omega)).1]at a;rw[(k 16 (by omega)).2,(k 13 (by omega)).2];exact h.f16 a
theorem OJ.s13(h:OJ W0 base E rv n xs u l vs w)(hbase:base<=W0.heap.size)(h14:l 14=false)(h15:l 15=false)(h16:l 16=false){p:Option Addr}{c:Nat}(hr:ac w' w.heap.size 32 3 (.slice p u.vals.length c) u.vals.length (cells3 u.vals))(hb:Below w.heap.size w w'):OJ W0 base E rv n xs u (fq l 13) (fk vs 13 (.slice p u.vals.length c)) w':=by
 have b:=aB (h.f0 h16) hb;refine⟨cZ b,fun _=>b,fun j d a=>?_,fun _=>⟨p,c,aS,by rw[aS];exact ac.mono hr (zw hbase (h.f0 h16).size)⟩,fun a=>?_,fun a=>?_,fun a=>?_⟩
 ·rw[aJ (by omega)];rw[aI (by omega)]at a;exact h.ev j d a
 ·rw[aI (by decide),h14]at a;cases a
 ·rw[aI (by decide),h15]at a;cases a
 rw[aI (by decide),h16]at a;cases a
theorem OJ.Bl(h:OJ W0 base E rv n xs u l vs w)(h15:l 15=false)(h16:l 16=false):OJ W0 base E rv n xs u (fq l 14) (fk vs 14 (.agg #[.int .i64 u.dO,.string u.tbl,.int .i64 u.id,.string u.col,vs 13])) w:=by
 refine⟨h.gb,fun _=>h.f0 h16,fun j b a=>?_,fun a=>?_,fun _=>?_,fun a=>?_,fun a=>?_⟩
 ·rw[aJ (by omega)];rw[aI (by omega)]at a;exact h.ev j b a
 ·rw[aI (by decide)]at a;rw[aJ (by decide)];exact h.f13 a
 ·rw[aS,aJ (by decide)]
 ·rw[aI (by decide),h15]at a;cases a
 rw[aI (by decide),h16]at a;cases a
theorem OJ.s15(h:OJ W0 base E rv n xs u l vs w)(h13:l 13=true)(h16:l 16=false):OJ W0 base E rv n xs u (fq l 15) (fk vs 15 (.slice (some ⟨w.heap.size,0,none⟩) 1 1)) (w.alloc (.cells #[.int .i64 u.dO,.string u.tbl,.int .i64 u.id,.string u.col,vs 13] 29)):=by
 have b:=aB (h.f0 h16) (aD w (.cells #[.int .i64 u.dO,.string u.tbl,.int .i64 u.id,.string u.col,vs 13] 29));obtain⟨p,c,e,d⟩:=h.f13 h13;refine⟨cZ b,fun _=>b,fun j g a=>?_,fun a=>?_,fun a=>?_,fun _ _=>⟨w,?_,aS,h.f0 h16,fun q f=>?_⟩,fun a=>?_⟩
 ·rw[aJ (by omega)];rw[aI (by omega)]at a;exact h.ev j g a
 ·rw[aJ (by decide)];exact⟨p,c,e,d.later (aD _ _)⟩
 ·rw[aI (by decide)]at a;rw[aJ (by decide),aJ (by decide)];exact h.f14 a
 ·rw[aJ (by decide)]
 ·rw[aJ (by decide)]at f;exact(ac.lt d q f).2
 rw[aI (by decide),h16]at a;cases a
theorem OJ.s16(h:OJ W0 base E rv n xs u l vs w)(h13:l 13=true)(hW:ac W0 base 29 5 rv n xs){y:World}{v:Value}(h15:w=y.alloc (.cells #[.int .i64 u.dO,.string u.tbl,.int .i64 u.id,.string u.col,vs 13] 29))(hy:Below W0.heap.size W0 y)(h13y:∀q,(vs 13).ownBlock=some q->q<y.heap.size){g cap:Nat}(hv:v=.slice (some ⟨g,0,none⟩) (n+1) cap)(hr:ac w' base 29 5 (.slice (some ⟨g,0,none⟩) (n+1) cap) (n+1) (xs++opC u (vs 13)))(hg:y.grownBy w' rv.ownBlock)(ho:rv.ownBlock=some g∨y.heap.size<=g):OJ W0 base E rv n xs u (fq l 16) (fk vs 16 v) w':=by
 obtain⟨p,c,e,f⟩:=h.f13 h13;have d:W0.grownBy w' rv.ownBlock:=⟨hg.os.trans hy.os,hg.tape.trans hy.tape,hg.output.trans hy.output,zw hy.size hg.size,fun q i s=>(hg.block q (z9 i hy.size) s).trans (hy.block q i)⟩;refine⟨d,fun a=>?_,fun j t a=>?_,fun a=>?_,fun a=>?_,fun _ a=>?_,fun _=>⟨g,cap,aS.trans hv,?_,ho.imp (fun h=>h) (fun h=>zw hy.size h)⟩⟩
 ·rw[bW]at a;cases a
 ·rw[aJ (by omega)];rw[aI (by omega)]at a;exact h.ev j t a
 ·rw[aJ (by decide)];refine⟨p,c,e,f.of (fun k m=>?_)⟩;have b:=h13y k m;rw[hg.block k b (fun o=>?_),h15]
  ·exact(aD y _).block k b |>.symm
  obtain⟨_,c1,r⟩:=f.block k m;obtain⟨_,c2,x⟩:=hW.block k o.symm;rw[h15,(aD y _).block k b,hy.block k (ac.lt hW k o.symm).2,x]at r;cases r
 ·rw[aI (by decide)]at a;rw[aJ (by decide),aJ (by decide)];exact h.f14 a
 ·rw[bW]at a;cases a
 rw[aJ (by decide)];exact hr
end
theorem G1(y:World)(base:Nat){v:Value}{m:Nat}{xs:List Value}(hr:ac y base 29 5 v m xs)(hm:m+1<=1000000)(hb:base<=y.heap.size)(u:cx)(vv:Value)(h1:vv.oneCell'=true):∃g a w',(Builtin.append_ #[35,35] 35 #[v,.slice (some ⟨y.heap.size,0,none⟩) 1 1]).run prog (y.alloc (.cells #[.int .i64 u.dO,.string u.tbl,.int .i64 u.id,.string u.col,vv] 29))=.ok (.slice (some ⟨g,0,none⟩) (m+1) a) w'/\ac w' base 29 5 (.slice (some ⟨g,0,none⟩) (m+1) a) (m+1) (xs++opC u vv)/\y.grownBy w' v.ownBlock/\(v.ownBlock=some g∨y.heap.size<=g):=
 Go.Proofs.YthlccadnojnkaaaGreat.jr underlying35 DM rfl (by decide) (by decide) y base hr hm hb #[.int .i64 u.dO,.string u.tbl,.int .i64 u.id,.string u.col,vv] rfl (fun x b=>C7 u vv h1 x (by simpa [opC]using b))
theorem C9{W:World}{p:Option Addr}{c:Nat}{L:List cx}(M:Nat)(hM:M<=1000)(h:qi W p L)(hL:L.length<=maxLen):Calls prog 23 #[.slice p L.length c,.int .i64 (M:Int)] W fun e w'=>∃tv,e=.returned tv/\ef w' W.heap.size tv ((L.take M).map fe)/\Below W.heap.size W w':=by
 obtain⟨n,hn⟩:=ag L.length;have f3:(n:Int)<=9223372036854775807:=(by unfold maxLen at hL;omega);have HN:=aa hn;have HI:=aa h;rw[hn];clear h hL hn;go_enter func23,ntmps23;go_wp2_with fail;go_loopg [5,6] (M+1) (fun gh tv iv w=>∃(k:Nat),k<=n/\k<=M/\M+1<=k+gh/\iv=.int .i64 (k:Int)/\ef w W.heap.size tv ((L.take k).map fe)/\Below W.heap.size W w)
 case atStart=>exact⟨0,zh _,zh _,by omega,rfl,ef.nil,zb _ _⟩
 obtain⟨k,hk,f4,hg,rfl,hr,hB⟩:=hrel;by_cases b2:k<n/\k<M
 ·obtain⟨h1,h2⟩:=b2;have a8:k<L.length:=(by rw[HN.out];exact h1);have f5:(k:Int)<(M:Int):=(by omega);have f6:(k:Int)<(n:Int):=(by omega);have t:((L.take k).map fe).length=k:=(by rw[yh,we,HN.out];omega);obtain⟨Lk,Y⟩:=ag ((L.take k).map fe);rw[Y]at hr t;obtain⟨sv,x,f,a2⟩:=hr;rw[t]at x f;obtain⟨pt,ct,rfl,_,_⟩:=f.isslice;obtain⟨b1,o1,vv,rfl,f7,y0,y1,y2,y3,y4,hV,z1,z2,z3⟩:=HI.out k a8;have I:∀{a:Addr} {v:Value},W.cell? a=some v->wr.cell? a=some v:=(fun{a v} h=>(za (w:=W) (hB.block _ (xn _ _ h))).trans h);replace y0:=I y0;replace y1:=I y1;replace y2:=I y2;replace y3:=I y3;replace y4:=I y4;replace hV:=hV.later hB;obtain⟨u,hu⟩:=ag (L[k]);rw[hu]at y0 y1 y2 y3 hV z1 z2 z3;obtain⟨pv,cv,rfl,_,_⟩:=hV.slice;have J:=aD wr (.cells #[.int .i64 u.dO,.string u.tbl,.int .i64 u.id,.string u.col,.slice pv u.vals.length cv] 29);have kA:=z7 wr (.cells #[.int .i64 u.dO,.string u.tbl,.int .i64 u.id,.string u.col,.slice pv u.vals.length cv] 29);have a6:∀q,(Value.slice pt k ct).ownBlock=some q->q<wr.heap.size:=(fun q hq=>(ac.lt f q hq).2);obtain⟨w1,a3⟩:=ag (wr.alloc (.cells #[.int .i64 u.dO,.string u.tbl,.int .i64 u.id,.string u.col,.slice pv u.vals.length cv] 29));have b3:wr.heap.size<w1.heap.size:=(by rw[<-a3,zj];omega);obtain⟨tb,hT⟩:=ag wr.heap.size;rw[a3]at J kA;have b4:Below W.heap.size W w1:=aB hB J;have A:=aa b4;have HV:=aa (ab (hV.later J) (ab z1 (ab z2 z3)))
  have a7:∀j (hj:j<Lk.length),∃v,sv[j]?=some v/\ac w1 W.heap.size 32 3 v Lk[j].vals.length (cells3 Lk[j].vals):=fun j hj=>by
   obtain⟨v,e,r⟩:=a2 j hj;exact⟨v,e,r.later J⟩
  have F:=aa (ab (f.later J) (ab x (ab t (ab hu (ab Y a7)))))
  have O:Hid (∀w,w1.grownBy w (Value.slice pt k ct).ownBlock->w.cell? ⟨tb,0,none⟩=some (.int .i64 u.dO)/\w.cell? ⟨tb,1,none⟩=some (.string u.tbl)/\w.cell? ⟨tb,2,none⟩=some (.int .i64 u.id)/\w.cell? ⟨tb,3,none⟩=some (.string u.col)/\w.cell? ⟨tb,4,none⟩=some (.slice pv u.vals.length cv)/\tb<w.heap.size):=aa (fun w hg=>by
   have B:=(hg.block tb (by omega) (fun e=>by have:=a6 tb e.symm;omega)).trans (hT▸kA);exact⟨aA B 0,aA B 1,aA B 2,aA B 3,aA B 4,by have:=hg.size;omega⟩)
  have hcut:∀(s:ByteArray) (w:World),s.size<=maxLen->Calls prog 55 #[.string s,.int .i64 20] w fun e w'=>e=.returned (.string (lq 20 s))/\w=w':=fun s w hs=>CV s 20 w hs (by omega) (by omega)
  have HC:=aa hcut;have HW:=aa (ab a3 (ab hT b3));clear hB x f a2 a7 hu Y hV z1 z2 z3 J kA a6 a3 b3 hT b4 t I hcut;go_upto_region 6 with fail;rw[HW.1,HW.2.1];clear y0 y1 y2 y3 y4;refine ay 17 (OJ w1 W.heap.size (fun c0=>[.slice pt k ct,.pointer (some ⟨tb,0,none⟩),.int .i64 (u.dO),.pointer (some ⟨tb,1,none⟩),.string u.tbl,.string (lq 20 u.tbl),.pointer (some ⟨tb,2,none⟩),.int .i64 (u.id),.pointer (some ⟨tb,3,none⟩),.string u.col,.string (lq 20 u.col),.pointer (some ⟨tb,4,none⟩),.slice pv u.vals.length cv].getD c0 undef) (.slice pt k ct) k (fi Lk sv) (fe u)) ?AA ?hmA ?hBA ?hAA ?hJA ?hopA ?hTA
  case hmA=>kernel_rfl
  case hBA=>kernel_rfl
  case hAA =>
   intro vs;simp only[am,ai,Act.put,cy,db,bt,cp,dc,da,bu];rfl
  case hJA =>
   intro vs;have m:=aF w1;exact⟨cZ m,fun _=>m,fun _ _ h=>(by cases h),fun h=>(by cases h),fun h=>(by cases h),fun h=>(by cases h),fun h=>(by cases h)⟩
  case hopA =>
   simp only[ce,ze,br,yu];and_intros<;>intro l vs w b hl m d
   ·have o:=aa b;obtain⟨Q,R,S,U,V,X⟩:=O.out w b.gb;clear b m d;simp only[af];go_simp;all_goals exact o.out.up 0 (by decide)
   ·have o:=aa b;obtain⟨Q,R,S,U,V,X⟩:=O.out w b.gb;clear b m d;simp only[af];go_simp;all_goals exact o.out.up 1 (by decide)
   ·have o:=aa b;obtain⟨Q,R,S,U,V,X⟩:=O.out w b.gb;have d1:vs 1=.pointer (some ⟨tb,0,none⟩):=b.ev 1 (by decide) (m 1 (by kernel_rfl));clear b m d;simp only[af,d1];go_simp;all_goals exact o.out.up 2 (by decide)
   ·have o:=aa b;obtain⟨Q,R,S,U,V,X⟩:=O.out w b.gb;clear b m d;simp only[af];go_simp;all_goals exact o.out.up 3 (by decide)
   ·have o:=aa b;obtain⟨Q,R,S,U,V,X⟩:=O.out w b.gb;have d3:vs 3=.pointer (some ⟨tb,1,none⟩):=b.ev 3 (by decide) (m 3 (by kernel_rfl));clear b m d;simp only[af,d3];go_simp;all_goals exact o.out.up 4 (by decide)
   ·have o:=aa b;obtain⟨Q,R,S,U,V,X⟩:=O.out w b.gb;have d4:vs 4=.string u.tbl:=b.ev 4 (by decide) (m 4 (by kernel_rfl));have hc:=HC.out u.tbl w HV.2.1;clear b m d;simp only[af,d4];go_simp;refine hc.mono ?_;rintro e y⟨rfl,rfl⟩;exact⟨_,rfl,o.out.up 5 (by decide)⟩
   ·have o:=aa b;obtain⟨Q,R,S,U,V,X⟩:=O.out w b.gb;clear b m d;simp only[af];go_simp;all_goals exact o.out.up 6 (by decide)
   ·have o:=aa b;obtain⟨Q,R,S,U,V,X⟩:=O.out w b.gb;have d6:vs 6=.pointer (some ⟨tb,2,none⟩):=b.ev 6 (by decide) (m 6 (by kernel_rfl));clear b m d;simp only[af,d6];go_simp;all_goals exact o.out.up 7 (by decide)
   ·have o:=aa b;obtain⟨Q,R,S,U,V,X⟩:=O.out w b.gb;clear b m d;simp only[af];go_simp;all_goals exact o.out.up 8 (by decide)
   ·have o:=aa b;obtain⟨Q,R,S,U,V,X⟩:=O.out w b.gb;have d8:vs 8=.pointer (some ⟨tb,3,none⟩):=b.ev 8 (by decide) (m 8 (by kernel_rfl));clear b m d;simp only[af,d8];go_simp;all_goals exact o.out.up 9 (by decide)
   ·have o:=aa b;obtain⟨Q,R,S,U,V,X⟩:=O.out w b.gb;have d9:vs 9=.string u.col:=b.ev 9 (by decide) (m 9 (by kernel_rfl));have hc:=HC.out u.col w HV.2.2.1;clear b m d;simp only[af,d9];go_simp;refine hc.mono ?_;rintro e y⟨rfl,rfl⟩;exact⟨_,rfl,o.out.up 10 (by decide)⟩
   ·have o:=aa b;obtain⟨Q,R,S,U,V,X⟩:=O.out w b.gb;clear b m d;simp only[af];go_simp;all_goals exact o.out.up 11 (by decide)
   ·have o:=aa b;obtain⟨Q,R,S,U,V,X⟩:=O.out w b.gb;have c4:vs 11=.pointer (some ⟨tb,4,none⟩):=b.ev 11 (by decide) (m 11 (by kernel_rfl));clear b m d;simp only[af,c4];go_simp;all_goals exact o.out.up 12 (by decide)
   ·have o:=aa b;have Z:l 14=false:=(by cases h:l 14 with|false=>rfl|true=>exact absurd (d 14 13 (by kernel_rfl) h) (by simp[hl]));have E:l 15=false:=(by cases h:l 15 with|false=>rfl|true=>exact absurd (d 15 14 (by kernel_rfl) h) (by simp[Z]));have P:l 16=false:=(by cases h:l 16 with|false=>rfl|true=>exact absurd (d 16 15 (by kernel_rfl) h) (by simp[E]));have c5:vs 12=.slice pv u.vals.length cv:=b.ev 12 (by decide) (m 12 (by kernel_rfl));have hc:=GC (N:=7) (by decide) (HV.1.later (b.f0 P)) HV.2.2.2;clear b m d;simp only[af,c5];go_simp;refine hc.mono ?_;rintro e y⟨v',rfl,b5,c6⟩;obtain⟨p3,c3,rfl,_,_⟩:=b5.isslice;exact⟨_,rfl,o.out.s13 A.out.size Z E P b5 c6⟩
   ·have E:l 15=false:=(by cases h:l 15 with|false=>rfl|true=>exact absurd (d 15 14 (by kernel_rfl) h) (by simp[hl]));have P:l 16=false:=(by cases h:l 16 with|false=>rfl|true=>exact absurd (d 16 15 (by kernel_rfl) h) (by simp[E]));have d2:vs 2=.int .i64 (u.dO):=b.ev 2 (by decide) (m 2 (by kernel_rfl));have d5:vs 5=.string (lq 20 u.tbl):=b.ev 5 (by decide) (m 5 (by kernel_rfl));have d7:vs 7=.int .i64 (u.id):=b.ev 7 (by decide) (m 7 (by kernel_rfl));have c8:vs 10=.string (lq 20 u.col):=b.ev 10 (by decide) (m 10 (by kernel_rfl));obtain⟨p3,c3,G,_⟩:=b.f13 (m 13 (by kernel_rfl));have o:=aa (b.Bl E P);rw[G]at o;clear b m d;simp only[af,d2,d5,d7,c8,G];go_simp;all_goals exact o.out
   ·have P:l 16=false:=(by cases h:l 16 with|false=>rfl|true=>exact absurd (d 16 15 (by kernel_rfl) h) (by simp[hl]));have Z:=m 14 (by kernel_rfl);have b6:=b.f14 Z;have a0:=d 14 13 (by kernel_rfl) Z;obtain⟨p3,c3,G,_⟩:=b.f13 a0;have o:=aa (b.s15 a0 P);rw[G]at o b6;clear b m d;simp only[af,b6];go_simp;all_goals exact o.out
   have E:=m 15 (by kernel_rfl);have a0:=d 14 13 (by kernel_rfl) (d 15 14 (by kernel_rfl) E);obtain⟨y,rfl,e1,hy,b7⟩:=b.f15 E hl;obtain⟨p3,c3,G,_⟩:=b.f13 a0;have d0:vs 0=.slice pt k ct:=b.ev 0 (by decide) (m 0 (by kernel_rfl));obtain⟨g,cg,w6,b8,e3,e4,e5⟩:=G1 y W.heap.size (F.1.later hy) (by omega) (zw A.out.size hy.size) (fe u) (vs 13) (by rw[G];rfl);exact bf rfl (.tmp 23) (.tmp 38) 35 35 rfl d0 e1 b8 (b.s16 a0 F.1 rfl hy b7 rfl e3 e4 e5)
  intro l vs w4 hl b;simp only[cw,ym];obtain⟨p3,c3,G,ru⟩:=b.f13 (hl 13 (by decide));obtain⟨g7,c7,e6,a4,a9⟩:=b.f16 (hl 16 (by decide));have z:=b.gb;rw[e6];have H:=aa (ab ru (ab a4 (ab a9 z)));clear b hl ru a4 a9 z;go_wp2_with fail;go_roundg (M-k)
  case measure=>omega
  obtain⟨ru,a4,a9,z⟩:=H.out;obtain⟨f,x,t,hu,Y,a2⟩:=F.out;have a8:k<L.length:=by rw[HN.out];exact h1
  have e7:(L.take (k+1)).map fe=Lk++[fe u]:=by
   rw[yp a8,uc,hu,Y];rfl
  have e8:∀q,(Value.slice pt k ct).ownBlock=some q->W.heap.size<=q:=fun q hq=>(ac.lt f q hq).1
  have e9:Below W.heap.size W w4:=by
   refine⟨z.os.trans A.out.os,z.tape.trans A.out.tape,z.output.trans A.out.output,zw A.out.size z.size,fun q hq=>?_⟩;rw[z.block q (z9 hq A.out.size) (fun e=>by have:=e8 q e.symm;omega)];exact A.out.block q hq
  refine⟨k+1,by omega,by omega,by omega,rfl,?_,e9⟩;rw[e7];have a1:(Lk++[fe u]).length=k+1:=(by rw[y8,t];rfl);refine⟨sv++[vs 13],by rw[a1,y8,x];rfl,?_,fun j hj=>?_⟩
  ·rw[a1,uI _ _ _ _ (x.trans t.symm)];exact a4
  rw[a1]at hj;by_cases b9:j<k
  ·obtain⟨v,e,r⟩:=a2 j (by rw[t];exact b9);refine⟨v,by rw[wf (by omega)];exact e,?_⟩;have b0:(Lk++[fe u])[j]'(by rw[a1];exact hj)=Lk[j]'(by rw[t];exact b9):=xc _;rw[b0];refine r.of (fun q hq=>?_);have f1:=(ac.lt r q hq).2;refine z.block q f1 (fun e2=>?_);obtain⟨_,c1,q1⟩:=r.block q hq;obtain⟨_,c2,q2⟩:=f.block q e2.symm;rw[q1]at q2;cases q2
  obtain rfl:j=k:=(by omega);refine⟨vs 13,by rw[ye (by omega),x,Nat.sub_self];rfl,?_⟩
  have b0:(Lk++[fe u])[j]'(by rw[a1];exact hj)=fe u:=by
   rw[vu (by omega)];simp[t]
  rw[b0];exact ru
 have a5:¬ k<n∨(k<n/\¬ k<M):=by omega
 have he:(L.take M).map fe=(L.take k).map fe:=by
  rcases a5 with he|⟨_,he⟩
  ·rw[yy (l:=L) (i:=k) (by rw[HN.out];omega),yy (by rw[HN.out];omega)]
  obtain rfl:k=M:=(by omega);rfl
 have HR:=aa (ab hr (ab hB he));obtain⟨sv,x,f,_⟩:=hr;obtain⟨pt,ct,rfl,_,_⟩:=f.isslice;clear b2 hB he f x;rcases a5 with a5|⟨a5,f2⟩
 all_goals
  go_wp2_with fail;go_ret;exact⟨_,rfl,by rw[HR.2.2];exact HR.1,HR.2.1⟩
def lh(ts:List T)(L:List PT)(o:cx):List PT:=
 match ts[(ky ts o.tbl).toNat]?,L[(ky ts o.tbl).toNat]? with
 | some t,some x=>if ky ts o.tbl<0 then L else if o.dO=1 then L.set (ky ts o.tbl).toNat (gj t x o.vals)else if o.dO=2 then L.set (ky ts o.tbl).toNat (kh x o.id)else if o.vals.length=1 then L.set (ky ts o.tbl).toNat (js t x o.id o.col (o.vals.getD 0 z3))else L
 | _,_=>L
def en(ts:List T)(L:List PT)(l:List cx):List PT:=l.foldl (lh ts) L
structure ir (o:cx):Prop where
 id:kj o.id
 tbl:o.tbl.size<=maxLen
 col:o.col.size<=maxLen
 vals:∀x∈o.vals,x.2.2.size<=maxLen
 few:o.vals.length<=1000
section
variable {ts:List T}{L:List PT}{o:cx}{j m:Nat}
theorem kK(h:ky ts o.tbl<0):lh ts L o=L:=by
 unfold lh;split
 ·rw[zv h]
 rfl
theorem dX(h:ky ts o.tbl=(j:Int))(hj:j<ts.length)(hL:j<L.length):lh ts L o=if o.dO=1 then L.set j (gj ts[j] L[j] o.vals)else if o.dO=2 then L.set j (kh L[j] o.id)else if o.vals.length=1 then L.set j (js ts[j] L[j] o.id o.col (o.vals.getD 0 z3))else L:=by
 unfold lh;rw[h];simp only[v7,z6 hj,z6 hL];rw[zq (by omega)]
theorem dw.mono{m m':Nat}{x:PT}(h:dw m x)(hm:m<=m'):dw m' x:=⟨zw h.1 hm,h.2⟩
theorem xX(h:∀x∈L,dw m x){y:PT}(hy:dw (m+1) y):∀x∈L.set j y,dw (m+1) x:=fun x a=>by
 rcases List.mem_or_eq_of_mem_set a with b|rfl
 ·exact(h x b).mono (by omega)
 ·exact hy
theorem uJ(h:∀x∈L,dw m x):∀x∈lh ts L o,dw (m+1) x:=by
 unfold lh;split
 ·rename_i t x c b;have a:=h x (List.mem_of_getElem? b);split
  ·exact fun x a=>(h x a).mono (by omega)
  split
  ·exact xX h (a.ins t o.vals)
  split
  ·exact xX h ((a.del o.id).mono (by omega))
  split
  ·exact xX h ((a.set t o.id o.col _).mono (by omega))
  exact fun x a=>(h x a).mono (by omega)
 exact fun x a=>(h x a).mono (by omega)
theorem dY{l:List cx}(h:∀x∈L,dw m x):∀x∈en ts L l,dw (m+l.length) x:=by
 induction l generalizing L m with
 | nil=>exact h
 | cons o l ih =>
  have:=ih (uJ (ts:=ts) (o:=o) h)
  intro x a
  have:=this x a
  rw[xe];exact this.mono (by omega)
theorem nW{l:List cx}(hj:j<l.length):en ts L (l.take (j+1))=lh ts (en ts L (l.take j)) l[j]:=by
 unfold en;rw[yp hj,List.foldl_append];rfl
end
theorem Db{α:Type}(f:α->List Value)(hf:∀x,(f x).length=5):∀(l:List α) (j k:Nat) (a:j<l.length),k<5->(l.flatMap f)[j*5+k]?=(f l[j])[k]?
 | [],j,_,a,_=>absurd a (yo j)
 | x::l,0,k,_,hk=>by
  rw[vh,wf (by rw[hf];omega),Nat.zero_mul,xq];rfl
 | x::l,j+1,k,a,hk=>by
  have b:j<l.length:=(by simpa using a);rw[vh,ye (by rw[hf];omega),hf,show(j+1)*5+k-5=j*5+k by omega];exact Db f hf l j k b hk
theorem He{L:List cx}{sv:List Value}(h:sv.length=L.length){j:Nat}(hj:j<L.length){v:Value}(hv:sv[j]?=some v):(fi L sv)[j*5]?=some (.int .i64 L[j].dO)/\(fi L sv)[j*5+1]?=some (.string L[j].tbl)/\(fi L sv)[j*5+2]?=some (.int .i64 L[j].id)/\(fi L sv)[j*5+3]?=some (.string L[j].col)/\(fi L sv)[j*5+4]?=some v:=by
 have a:j<(L.zip sv).length:=by rw[List.length_zip,h,Nat.min_self];exact hj
 have e:(L.zip sv)[j]=(L[j],v):=by
  rw[List.getElem_zip]
  have:sv[j]'(by rw[h];exact hj)=v:=by
   have:=(List.getElem?_eq_some_iff.1 hv).2
   exact this
  rw[this]
 have f:=(fun k b=>Db (fun p:cx×Value=>opC p.1 p.2) (fun _=>rfl) (L.zip sv) j k a b);simp only[e]at f;exact⟨f 0 (by decide),f 1 (by decide),f 2 (by decide),f 3 (by decide),f 4 (by decide)⟩
theorem uK{K:Nat->Prop}{W0:World}{base:Nat}{tv:Value}{L:List cx}(ho:ef W0 base tv L)(hK:∀q,base<=q->q<W0.heap.size->K q){j:Nat}(hj:j<L.length):∃g b h,tv=.slice (some ⟨g,0,none⟩) L.length b/\∀w:World,(∀q,K q->w.heap[q]?=W0.heap[q]?) ->
   (w.cell? ⟨g,j*5,none⟩=some (.int .i64 L[j].dO)/\w.cell? ⟨g,j*5+1,none⟩=some (.string L[j].tbl)/\w.cell? ⟨g,j*5+2,none⟩=some (.int .i64 L[j].id)/\w.cell? ⟨g,j*5+3,none⟩=some (.string L[j].col)/\w.cell? ⟨g,j*5+4,none⟩=some h/\g<w.heap.size)/\ac w base 32 3 h L[j].vals.length (cells3 L[j].vals)/\eb K w h L[j].vals:=by
 obtain⟨sv,o,m,p⟩:=ho;obtain⟨g,b,rfl,_,_⟩:=ac.slice m (by omega);obtain⟨v,r,c⟩:=p j hj;obtain⟨c0,c1,c2,c3,c4⟩:=He o hj r;refine⟨g,b,v,rfl,fun w s=>?_⟩
 have d:∀{e size n:Nat} {u:Value} {xs:List Value},ac W0 base e size u n xs->ac w base e size u n xs:=fun c=>c.of (fun q i=>by
  obtain⟨k,l⟩:=ac.lt c q i;exact s q (hK q k l))
 have a:=d m;have f:=d c;refine⟨⟨a.cell c0,a.cell c1,a.cell c2,a.cell c3,a.cell c4,(ac.lt a g rfl).2⟩,f,(eb.jk f rfl).mono (fun q _ i=>?_)⟩;obtain⟨k,l⟩:=ac.lt c q i;exact hK q k l
abbrev lu(tt:List RT):List (List R1):=tt.map (·.A)
section
variable {W:World}{b:Nat}{us:List T}{tt:List RT}{i:NI}{O:Nat->Nat}
theorem xY(h:ew W b us tt i O)(hi:mh us)(hc1:∀t∈us,t.cols.length<=1000)(hAl:∀y∈tt,y.A.length<=100000)(x:ByteArray)(u:T3):Calls prog 87 #[.pointer (some ⟨b,0,none⟩),.string x,.agg #[.int .i64 u.1,.int .i64 u.2.1,.string u.2.2]] W fun e w'=>e=.returned (.tuple #[.int .i64 ((bg us (lu tt) x u).getD 0),.bool (bg us (lu tt) x u).isSome])/\Below W.heap.size W w':=by
 rcases bZ us x with ⟨f,_,r⟩ | ⟨j,c,f,_,r⟩
 ·rw[nO (by omega)];exact kD h x u.1 u.2.1 u.2.2 (.inl (by omega))
 have d:j<tt.length:=(by rw[h.n];exact c);have o:j<(lu tt).length:=(by rw[yh];exact d);rw[pR c o f];by_cases g:us[j].key=e0
 ·rw[zv g];exact kD h x u.1 u.2.1 u.2.2 (.inr ⟨j,c,f,.inl g⟩)
 rw[zq g];by_cases l:u.1=0
 ·rw[zv l];exact kD h x u.1 u.2.1 u.2.2 (.inr ⟨j,c,f,.inr l⟩)
 rw[zq l];have a:=hi.key _ (z8 c)
 have q:dr us[j].cols us[j].key=true:=by
  unfold bi at a;rw[wm]at a;rcases a with a|a
  ·rw[eZ]at a;exact absurd a g
  exact a
 rcases cI us[j].cols us[j].key with ⟨_,m,_⟩ | ⟨k,p,m,_⟩
 ·rw[m]at q;cases q
 rw[m]
 have:=xO h c (z6 d) f g p m u.1 u.2.1 u.2.2 l (hAl _ (z8 d)) (hc1 _ (z8 c))
 simpa only[v7,lu,xa]using this
end
abbrev zF:Array Value:=#[.int .i64 0,.int .i64 0,.string e0,.int .i64 0,.string e0]
abbrev bj(e a:Int)(t:ByteArray)(r:Int)(c:ByteArray):Value:=.agg #[.int .i64 e,.int .i64 a,.string t,.int .i64 r,.string c]
theorem gS{x:World}{b:Nat}{a0 a1 a2 a3 a4:Value}{t:TypeId}(h:x.heap[b]?=some (.cells #[a0,a1,a2,a3,a4] t))(a c d e f:Value):(((((x.setCell ⟨b,0,none⟩ a).setCell ⟨b,1,none⟩ c).setCell ⟨b,2,none⟩ d).setCell ⟨b,3,none⟩ e).setCell ⟨b,4,none⟩ f).heap[b]?=some (.cells #[a,c,d,e,f] t):=by
 rw[y9 _ b 4 #[a,c,d,e,a4] t f (y9 _ b 3 #[a,c,d,a3,a4] t e (y9 _ b 2 #[a,c,a2,a3,a4] t d (y9 _ b 1 #[a,a1,a2,a3,a4] t c (y9 _ b 0 #[a0,a1,a2,a3,a4] t a h))))];rfl
theorem aP{A w:World}{g:Nat}(h:A.grownBy w (some g))(j:Nat)(a:Value):A.grownBy (w.setCell ⟨g,j,none⟩ a) (some g):=
 ⟨h.os,h.tape,h.output,by simpa using h.size,fun q c b=>by
  rw[yd w ⟨g,j,none⟩ q a (fun e=>b (by rw[e]))];exact h.block q c b⟩
theorem cK(w:World)(o:Option Nat):w.grownBy w o:=⟨rfl,rfl,rfl,zm _,fun _ _ _=>rfl⟩
theorem aW(w:World)(g:Nat)(a b c d e:Value):w.grownBy (((((w.setCell ⟨g,0,none⟩ a).setCell ⟨g,1,none⟩ b).setCell ⟨g,2,none⟩ c).setCell ⟨g,3,none⟩ d).setCell ⟨g,4,none⟩ e) (some g):=
 aP (aP (aP (aP (aP (cK w (some g)) 0 a) 1 b) 2 c) 3 d) 4 e
theorem Eo(n:Int)(W:World):Calls prog 123 #[.int .i64 n] W fun e w'=>e=.returned (.agg #[.int .i64 1,.int .i64 n,.string e0])/\Below W.heap.size W w':=by
 have b:=aD W (.cells #[.int .i64 0,.int .i64 0,.string e0] 32);have a:=z7 W (.cells #[.int .i64 0,.int .i64 0,.string e0] 32);obtain⟨k,c⟩:=ag (W.alloc (.cells #[.int .i64 0,.int .i64 0,.string e0] 32));obtain⟨B,h⟩:=ag W.heap.size;rw[c]at b a;rw[h]at a;have p:=aA a 0;have q:=aA a 1;have r:=aA a 2;have s:=(fun i=>zo k B i _ _ a);have t:=aC a;have d:=aa (ab c (ab h (ab b a)));clear c h b a;go_enter func123,ntmps123;go_upto_region 1 with fail;rw[d.1,d.2.1];go_wp2_with fail;generalize j:((World.setCell _ _ _).setCell _ _).setCell _ _=wz;have g:=jT d.2.2.2 (.int .i64 1) (.int .i64 n) (.string e0);have f:=bL d.2.2.1 (xy d.2.1) (.int .i64 1) (.int .i64 n) (.string e0);rw[j]at g f;have l:=aA g 0;have m:=aA g 1;have o:=aA g 2;refine ya (v:=(.agg #[.int .i64 1,.int .i64 n,.string e0])) (by simp[results,results123,go_sem,l,m,o]) rfl ?_;exact⟨rfl,f⟩
theorem uL(s:ByteArray)(W:World):Calls prog 124 #[.string s] W fun e w'=>e=.returned (.agg #[.int .i64 2,.int .i64 0,.string s])/\Below W.heap.size W w':=by
 have b:=aD W (.cells #[.int .i64 0,.int .i64 0,.string e0] 32);have a:=z7 W (.cells #[.int .i64 0,.int .i64 0,.string e0] 32);obtain⟨k,c⟩:=ag (W.alloc (.cells #[.int .i64 0,.int .i64 0,.string e0] 32));obtain⟨B,h⟩:=ag W.heap.size;rw[c]at b a;rw[h]at a;have o:=aA a 0;have p:=aA a 1;have q:=aA a 2;have r:=(fun i=>zo k B i _ _ a);have t:=aC a;have d:=aa (ab c (ab h (ab b a)));clear c h b a;go_enter func124,ntmps124;go_upto_region 1 with fail;rw[d.1,d.2.1];go_wp2_with fail;generalize j:((World.setCell _ _ _).setCell _ _).setCell _ _=wz;have g:=jT d.2.2.2 (.int .i64 2) (.int .i64 0) (.string s);have f:=bL d.2.2.1 (xy d.2.1) (.int .i64 2) (.int .i64 0) (.string s);rw[j]at g f;have l:=aA g 0;have m:=aA g 1;have n:=aA g 2;refine ya (v:=(.agg #[.int .i64 2,.int .i64 0,.string s])) (by simp[results,results124,go_sem,l,m,n]) rfl ?_;exact⟨rfl,f⟩
theorem bR(e a r:Int)(t c:ByteArray)(W:World):Calls prog 19 #[bj e a t r c,bj e a t r c] W fun x w'=>x=.returned (.bool true)/\Below W.heap.size W w':=by
 have h:=aD W (.cells #[.int .i64 e,.int .i64 a,.string t,.int .i64 r,.string c] 39);have d:=z7 W (.cells #[.int .i64 e,.int .i64 a,.string t,.int .i64 r,.string c] 39);have b:=aD (W.alloc (.cells #[.int .i64 e,.int .i64 a,.string t,.int .i64 r,.string c] 39)) (.cells #[.int .i64 e,.int .i64 a,.string t,.int .i64 r,.string c] 39);have f:=z7 (W.alloc (.cells #[.int .i64 e,.int .i64 a,.string t,.int .i64 r,.string c] 39)) (.cells #[.int .i64 e,.int .i64 a,.string t,.int .i64 r,.string c] 39);have d:=aE b d;have b:=aB h b;obtain⟨k,g⟩:=ag ((W.alloc (.cells #[.int .i64 e,.int .i64 a,.string t,.int .i64 r,.string c] 39)).alloc (.cells #[.int .i64 e,.int .i64 a,.string t,.int .i64 r,.string c] 39));obtain⟨B,i⟩:=ag W.heap.size;rw[zj]at f;rw[g]at d f b;rw[i]at d f;have l:=aA d 0;have m:=aA d 1;have n:=aA d 2;have o:=aA d 3;have p:=aA d 4;have q:=aC d;have s:=aA f 0;have u:=aA f 1;have v:=aA f 2;have w:=aA f 3;have y:=aA f 4;have z:=aC f;have A:(e==e)=true:=beq_self_eq_true e;have E:(a==a)=true:=beq_self_eq_true a;have F:(r==r)=true:=beq_self_eq_true r;have G:(t.data.toList==t.data.toList)=true:=beq_self_eq_true _;have H:(c.data.toList==c.data.toList)=true:=beq_self_eq_true _;have j:=aa (ab g (ab i b));clear g i h b d f;go_enter func19,ntmps19;go_upto_region 1 with fail;rw[j.1,j.2.1];go_wp2_with fail;go_ret;exact⟨by first|rfl|simp,j.2.2⟩
theorem nX{W:World}{v1 v2:Value}{xs:List Int}(h1:Ro W 0 v1 xs)(h2:Ro W 0 v2 xs)(hl:xs.length<=1000):Calls prog 54 #[v1,v2] W fun x w'=>x=.returned (.bool true)/\Below W.heap.size W w':=by
 obtain⟨n,k⟩:=ag xs.length;obtain⟨p,c,rfl,_,_⟩:=ac.isslice h1;obtain⟨q,y,rfl,_,_⟩:=ac.isslice h2
 have s:Hid (∀w,Below W.heap.size W w->∀j (l:j<xs.length),∃g a,p=some ⟨g,0,none⟩/\q=some ⟨a,0,none⟩/\w.cell? ⟨g,j,none⟩=some (.int .i64 xs[j])/\w.cell? ⟨a,j,none⟩=some (.int .i64 xs[j])/\g<w.heap.size/\a<w.heap.size):=aa (fun w t j l=>by
  have d:=ac.later h1 t;have f:=ac.later h2 t;obtain⟨g,_,e,_,_⟩:=ac.slice d (by omega);cases e;obtain⟨a,_,e,_,_⟩:=ac.slice f (by omega);cases e;have e:(xs.map iv)[j]?=some (.int .i64 xs[j]):=(by rw[xm,z6 l];rfl);exact⟨g,a,rfl,rfl,d.cell e,f.cell e,(ac.lt d g rfl).2,(ac.lt f a rfl).2⟩)
 have z:=aa k;have A:(n:Int)<=1000:=(by omega);rw[k];have B:((n:Int) != (n:Int))=false:=(by simp);clear h1 h2 hl k;go_enter func54,ntmps54;go_wp2_with fail;go_loopg [5] (n+1) (fun E F w=>∃(j:Nat),F=.int .i64 (j:Int)/\j<=n/\n+1<=j+E/\Below W.heap.size W w)
 case atStart=>exact⟨0,rfl,zh _,by omega,zb _ _⟩
 obtain⟨j,rfl,l,O,h⟩:=hrel;by_cases m:j<n
 ·have G:(j:Int)<(n:Int):=(by omega);have i:j<xs.length:=(by rw[z.out];exact m);obtain⟨g,a,rfl,rfl,_⟩:=s.out wr h j i;obtain⟨x,u⟩:=ag (xs[j])
  have v:Hid (∀w,Below wr.heap.size wr w->w.cell? ⟨g,j,none⟩=some (.int .i64 x)/\w.cell? ⟨a,j,none⟩=some (.int .i64 x)/\g<w.heap.size/\a<w.heap.size):=aa (fun w H=>by
   obtain⟨P,Q,I,J,d,f,L,M⟩:=s.out w (aB h H) j i;cases I;cases J;rw[u]at d f;exact⟨d,f,L,M⟩)
  have o:=aa h;have R:(x != x)=false:=(by simp);clear h u;go_upto_region 6 with fail;refine ae 9 [.slice (some ⟨g,0,none⟩) n c,.int .i64 (j:Int),.pointer (some ⟨g,j,none⟩),.int .i64 x,.slice (some ⟨a,0,none⟩) n y,.int .i64 (j:Int),.pointer (some ⟨a,j,none⟩),.int .i64 x,.bool false] (fun w=>Below wr.heap.size wr w) ?A1 ?hm1 ?hB1 ?hA1 (aF wr) ?hop1 ?hT1
  case hm1=>kernel_rfl
  case hB1=>kernel_rfl
  case hA1 =>
   simp only[am,ai,Act.put,cy,db,bt,cp,dc,da,bu,eg,ed];rfl
  case hop1 =>
   simp only[ce,ze,ah,yu];and_intros<;>intro w' b<;>have r:=aa b
   rotate_left 3;have N:=(v.out w' b).1;rotate_left 4;have N:=(v.out w' b).2.1;rotate_left 2
   all_goals(clear b;simp only[Par.Gives];go_simp;all_goals exact r.out)
  intro w' b;simp only[cw,yq];have r:=aa (aB o.out b);clear b;go_wp2_with fail;go_roundg (n-j)
  case measure=>omega
  exact⟨j+1,by go_num,by omega,by omega,r.out⟩
 obtain rfl:j=n:=(by omega);have o:=aa h;clear h;go_wp2_with fail;go_ret;exact⟨rfl,o.out⟩
