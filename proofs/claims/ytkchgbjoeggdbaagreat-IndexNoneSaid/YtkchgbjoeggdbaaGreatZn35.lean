import Derived.Test.YtkchgbjoeggdbaaGreatZn34
set_option maxHeartbeats 2000000
set_option maxRecDepth 100000
namespace Go.Proofs.YtkchgbjoeggdbaaGreat.Ix
open Go.Proofs.Tryz
open Go Go.RowKit Go.Proofs Go.Proofs.YtkchgbjoeggdbaaGreat Go.Proofs.YtkchgbjoeggdbaaGreat.Co Go.Proofs.YtkchgbjoeggdbaaGreat.Co.S
variable{M:Nat}
theorem cN{n G:Nat}{A w w':World}(hb:Below n A w)(hn:n<=A.heap.size)(hg:w.grownBy w' (some G))(hG:n<=G):Below n A w':=
 ⟨hg.os.trans hb.os,hg.tape.trans hb.tape,hg.output.trans hb.output,zx hb.size hg.size,fun q a=>(hg.block q (z9 a (zx hn hb.size)) (fun e=>by cases e;omega)).trans (hb.block q a)⟩
theorem dI(w:World)(g j:Nat)(a:Value):w.grownBy (w.setCell ⟨g,j,none⟩ a) (some g):=
 ⟨rfl,rfl,rfl,by simp[World.setCell],fun q _ b=>ua _ _ _ _ (fun e=>b (by rw[e]))⟩
abbrev AH(v:VX M):Value:=.agg #[.int .i64 v.1.1,.int .i64 v.1.2.1,.string v.1.2.2]
structure AT (w:World) (mb:Nat) (G:List (VX M×List Int)) (L:List (VX M×SV)):Prop where
 mp:∃W0,Mp (fun q=>mb<q) W0 Bw aw mb L w
 rows:rh 0 w L G
 len:L.length<=100000
 few:∀g∈G,g.2.length<=100000
structure tu (w:World) (x:Nat) (tb:ByteArray) (p:List ByteArray) (G:List (VX M×List Int)):Prop where
 blk:∃pv mb L,w.heap[x]?=some (.cells #[.string tb,pv,.pointer (some ⟨mb,0,none⟩)] 45)/\Wd w pv p/\AT w mb G L
section
variable{w w':World}{x mb:Nat}{tb:ByteArray}{p:List ByteArray}{G:List (VX M×List Int)}{L:List (VX M×SV)}
theorem AT.later(h:AT w mb G L)(hb:Below w.heap.size w w'):AT w' mb G L:=by
 obtain⟨a,b⟩:=h.mp;exact⟨⟨a,b.later hb⟩,h.rows.later hb,h.len,h.few⟩
theorem tu.later(h:tu w x tb p G)(hb:Below w.heap.size w w'):tu w' x tb p G:=by
 obtain⟨pv,mb,L,a,b,c⟩:=h.blk;exact⟨pv,mb,L,(hb.block x (aB a)).trans a,b.later hb,c.later hb⟩
theorem oW{v:VX M}{g:List Int}(h:ak aw v G=some g):∃q∈G,q.2=g:=by
 obtain⟨q,a,_,b⟩:=oL h;exact⟨q,a,b⟩
theorem AT.get(h:AT w mb G L)(v:VX M):∃s:SV,Calls prog 18 #[.pointer (some ⟨mb,0,none⟩),AH v] w (fun e w'=>e=.returned (.tuple #[jc s,.bool (ak aw v L).isSome])/\Below w.heap.size w w')/\Ro w 0 (jc s) ((ak aw v G).getD [])/\s=(ak aw v L).getD (none,0,0)/\((ak aw v G).getD []).length<=100000:=by
 obtain⟨a,b⟩:=h.mp;refine⟨(ak aw v L).getD (none,0,0),?_,h.rows.get v,rfl,?_⟩
 ·refine(kQ mb L (.inr (BX a)) v w (zx h.len (by decide)) b).mono ?_;rintro e w'⟨rfl,c⟩;refine⟨?_,c⟩;cases ak aw v L <;> rfl
 cases d:ak aw v G with
 | none=>exact zj _
 | some g =>
  obtain⟨q,f,rfl⟩:=oW d;exact h.few q f
theorem Vm.off{v:Value}{P:Int->Bool}(h:Vm w v P){o:Option Nat}(hg:w.grownBy w' o)(ho:∀k a,o=some k->w.heap[k]?≠some (.cells a 81)):Vm w' v P:=by
 obtain⟨l,b,c⟩:=h;exact⟨l,ac.mi b hg ho,c⟩
end
theorem FE{w:World}{x:Nat}{tb:ByteArray}{p:List ByteArray}{G:List (VX M×List Int)}(h:tu w x tb p G)(v:VX M):Calls prog 7 #[.pointer (some ⟨x,0,none⟩),AH v] w (rq (ry ((ak aw v G).getD [])) w):=by
 have a:=aC (aD w (.cells #[.int .i64 v.1.1,.int .i64 v.1.2.1,.string v.1.2.2] 32)) (aD (w.alloc (.cells #[.int .i64 v.1.1,.int .i64 v.1.2.1,.string v.1.2.2] 32)) (.cells #[.slice none 0 0] 29));have m:=z7 w (.cells #[.int .i64 v.1.1,.int .i64 v.1.2.1,.string v.1.2.2] 32);have E:=z7 (w.alloc (.cells #[.int .i64 v.1.1,.int .i64 v.1.2.1,.string v.1.2.2] 32)) (.cells #[.slice none 0 0] 29);have m:=aE (aD (w.alloc (.cells #[.int .i64 v.1.1,.int .i64 v.1.2.1,.string v.1.2.2] 32)) (.cells #[.slice none 0 0] 29)) m;obtain⟨b,n⟩:=ae ((w.alloc (.cells #[.int .i64 v.1.1,.int .i64 v.1.2.1,.string v.1.2.2] 32)).alloc (.cells #[.slice none 0 0] 29));obtain⟨X,Q⟩:=ae w.heap.size;rw[zm]at E;rw[n]at a m E;rw[Q]at m E;obtain⟨pv,mb,L,O,hw,Z⟩:=(h.later a).blk;have d:Below b.heap.size b b.drew:=(zg _ _).drew;obtain⟨s,l,f,R,o⟩:=(Z.later d).get v;clear R;obtain⟨g,hg⟩:=ae ((ak aw v G).getD []);rw[hg]at f o ⊢;obtain⟨sp,sn,sc⟩:=s;obtain⟨p1,c1,S,_,_⟩:=ac.isslice f;have S:Value.slice sp sn sc=.slice p1 g.length c1:=S;cases S;have HR:Hid (∀y,Below b.drew.heap.size b.drew y->Rd y sp g):=aa (fun y P=>Ro.rd (ac.later f P))
 have U:Hid (∀y,Below b.heap.size b y->y.cell? ⟨x,2,none⟩=some (.pointer (some ⟨mb,0,none⟩))/\y.cell? ⟨X,0,none⟩=some (.int .i64 v.1.1)/\y.cell? ⟨X,1,none⟩=some (.int .i64 v.1.2.1)/\y.cell? ⟨X,2,none⟩=some (.string v.1.2.2)):=aa (fun y P=>by
  have a1:=(P.block x (aB O)).trans O;have V:=(P.block X (aB m)).trans m;exact⟨aA a1 2,aA V 0,aA V 1,aA V 2⟩)
 have u:=aa (ab n (ab Q (ab a (ab E o))));have F:=zg b.heap.size b;have xl:=aB O;clear n Q a m E O hw Z f o hg h;go_enter func7,ntmps7;go_upto_region 1 with fail;rw[u.1,u.2.1];go_upto_region 3 with fail
 go_region_held3 (fun y=>y.cell? ⟨x,2,none⟩=some (.pointer (some ⟨mb,0,none⟩))/\y.cell? ⟨X,0,none⟩=some (.int .i64 v.1.1)/\y.cell? ⟨X,1,none⟩=some (.int .i64 v.1.2.1)/\y.cell? ⟨X,2,none⟩=some (.string v.1.2.2)) (first|exact U.out _ F|exact U.out _ d|exact U.out _ j) (first|(go_at_call 18;(with_reducible refine l.mono ?_);rintro e y1⟨rfl,q⟩;have j:=aC d q;clear l))
 have H:=vof (c:=sc) rfl u.2.2.2.2 (HR.out y1 q);have kx:=aE j u.2.2.2.1;have W:=aa (ab (aC u.2.2.1 j) kx);clear kx q j F d;go_wp2_with (go_at_call 27;refine H.mono ?_;rintro e z⟨A,B,c2,rfl,I,r⟩;have Y:=aa (ab I r);have t:=aE r W.2;have f0:=aA t 0;have ff:=fun i=>zq z (X+1) i _ _ t;have fl:=aB t;clear H I r t);have t:=aE Y.2 W.2;have k3:=y7 z (X+1) 0 _ _ (.slice A B c2) t;have g3:z.grownBy (z.setCell ⟨X+1,0,none⟩ (.slice A B c2)) (some (X+1)):=dI z (X+1) 0 (.slice A B c2);have J:Below w.heap.size w _:=cN (aC W.1 Y.2) (zo _) g3 (by have:=u.2.1;omega)
 have hv:=Vm.off Y.1 g3 (fun k a0 e h1=>by
  cases e;rw[t]at h1;cases h1)
 obtain⟨wz,N⟩:=ae (z.setCell ⟨X+1,0,none⟩ (.slice A B c2));rw[N]at k3 J hv;rw[N];have y0:=aA k3 0;refine y8 (v:=.agg #[.slice A B c2]) (by simp[results,results7,go_sem,y0]) rfl ?_;exact⟨A,B,c2,rfl,hv,J⟩
end Go.Proofs.YtkchgbjoeggdbaaGreat.Ix
namespace Go.Proofs.YtkchgbjoeggdbaaGreat.Ix
open Go.Proofs.Tryz
open Go Go.RowKit Go.Shelf Go.Proofs Go.Proofs.YtkchgbjoeggdbaaGreat Go.Proofs.YtkchgbjoeggdbaaGreat.Co Go.Proofs.YtkchgbjoeggdbaaGreat.Co.S
attribute [local go_sem] Oper.semAt_some
theorem wC(w:World)(d:Nat):Calls prog 4 #[.pointer none,.pointer (some ⟨d,0,none⟩)] w fun e w'=>e=.returned (.tuple #[])/\Below w.heap.size w w':=by
 have c:=aC (aD w (.cells #[.pointer none] 22)) (aD (w.alloc (.cells #[.pointer none] 22)) (.cells #[.pointer (some ⟨d,0,none⟩)] 24));have b:=aE (aD (w.alloc (.cells #[.pointer none] 22)) (.cells #[.pointer (some ⟨d,0,none⟩)] 24)) (z7 w (.cells #[.pointer none] 22));obtain⟨h,a⟩:=ae ((w.alloc (.cells #[.pointer none] 22)).alloc (.cells #[.pointer (some ⟨d,0,none⟩)] 24));obtain⟨B,f⟩:=ae w.heap.size;rw[a]at c b;rw[f]at b;have i:=aA b 0;have j:=aB b;have g:=aa (ab a (ab f c));clear a f c b;go_enter func4,ntmps4;go_upto_region 1 with fail;rw[g.1,g.2.1];go_wp2_with fail;refine y8 (v:=.tuple #[]) (results_none rfl _ _ _) rfl ?_;exact⟨rfl,g.2.2⟩
theorem wD(w:World):Calls prog 10 #[.pointer none] w fun e w'=>e=.returned (.slice none 0 0)/\w'=w:=by
 go_enter func10,ntmps10;go_wp2_with fail;go_ret;exact⟨rfl,rfl⟩
theorem Dl(w:World)(u:T3):Calls prog 7 #[.pointer none,.agg #[.int .i64 u.1,.int .i64 u.2.1,.string u.2.2]] w fun e w'=>e=.returned (.agg #[.slice none 0 0])/\Below w.heap.size w w':=by
 have d:=aC (aD w (.cells #[.int .i64 u.1,.int .i64 u.2.1,.string u.2.2] 32)) (aD (w.alloc (.cells #[.int .i64 u.1,.int .i64 u.2.1,.string u.2.2] 32)) (.cells #[.slice none 0 0] 29));have a:=z7 (w.alloc (.cells #[.int .i64 u.1,.int .i64 u.2.1,.string u.2.2] 32)) (.cells #[.slice none 0 0] 29);obtain⟨c,b⟩:=ae ((w.alloc (.cells #[.int .i64 u.1,.int .i64 u.2.1,.string u.2.2] 32)).alloc (.cells #[.slice none 0 0] 29));obtain⟨B,g⟩:=ae w.heap.size;rw[zm]at a;rw[b]at d a;rw[g]at a;have l:=aA a 0;have m:=aB a;have f0:=(fun i=>zq c (B+1) i _ _ a);have h:=aa (ab b (ab g (ab d a)));clear b g d a;go_enter func7,ntmps7;go_upto_region 1 with fail;rw[h.1,h.2.1];go_wp2_with fail;obtain⟨_,g,d,a⟩:=h.out;have k:(c.setCell ⟨B+1,0,none⟩ (.slice none 0 0)).heap[B+1]?=some (.cells #[.slice none 0 0] 29):=y7 c (B+1) 0 _ _ (.slice none 0 0) a;have f:Below w.heap.size w (c.setCell ⟨B+1,0,none⟩ (.slice none 0 0)):=cN d (zo _) (dI c (B+1) 0 (.slice none 0 0)) (by omega);have j:=aA k 0;generalize c.setCell ⟨B+1,0,none⟩ (.slice none 0 0)=wz at j f ⊢;refine y8 (v:=.agg #[.slice none 0 0]) (by simp[results,results7,go_sem,j]) rfl ?_;exact⟨rfl,f⟩
theorem DJ(w:World)(op:Int)(u:T3):Calls prog 11 #[.pointer none,.int .i64 op,.agg #[.int .i64 u.1,.int .i64 u.2.1,.string u.2.2]] w fun e w'=>e=.returned (.agg #[.slice none 0 0])/\Below w.heap.size w w':=by
 obtain⟨h,a⟩:=ae (w.alloc (.cells #[.int .i64 op] 3));obtain⟨d,b⟩:=ae (h.alloc (.cells #[.int .i64 u.1,.int .i64 u.2.1,.string u.2.2] 32));obtain⟨f,c⟩:=ae (d.alloc (.cells #[.slice none 0 0] 29));obtain⟨B,l⟩:=ae w.heap.size;have o:h.heap.size=B+1:=(by rw[<-a,zm,l]);have p:d.heap.size=B+2:=(by rw[<-b,zm,o]);have q:Below w.heap.size w h:=(by rw[<-a];exact aD w _);have r:Below h.heap.size h d:=(by rw[<-b];exact aD h _);have b1:Below d.heap.size d f:=(by rw[<-c];exact aD d _);have g:=z7 d (.cells #[.slice none 0 0] 29);rw[c,p]at g;have m:=aC (aC q r) b1;have j:((w.alloc (.cells #[.int .i64 op] 3)).alloc (.cells #[.int .i64 u.1,.int .i64 u.2.1,.string u.2.2] 32)).alloc (.cells #[.slice none 0 0] 29)=f:=(by rw[a,b,c]);have x:=aA g 0;have y:=aB g;have f0:=(fun i=>zq f (B+2) i _ _ g);have n:=aa (ab j (ab l (ab m g)));clear j l m g a b c o p q r b1 h d;go_enter func11,ntmps11;go_upto_region 1 with fail;rw[n.1,n.2.1];go_wp2_with fail;obtain⟨_,l,m,g⟩:=n.out;have t:(f.setCell ⟨B+2,0,none⟩ (.slice none 0 0)).heap[B+2]?=some (.cells #[.slice none 0 0] 29):=y7 f (B+2) 0 _ _ (.slice none 0 0) g;have k:Below w.heap.size w (f.setCell ⟨B+2,0,none⟩ (.slice none 0 0)):=cN m (zo _) (dI f (B+2) 0 (.slice none 0 0)) (by omega);have s:=aA t 0;generalize f.setCell ⟨B+2,0,none⟩ (.slice none 0 0)=wz at s k ⊢;refine y8 (v:=.agg #[.slice none 0 0]) (by simp[results,results11,go_sem,s]) rfl ?_;exact⟨rfl,k⟩
