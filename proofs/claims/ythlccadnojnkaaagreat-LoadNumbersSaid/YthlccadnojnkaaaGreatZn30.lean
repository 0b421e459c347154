import Derived.Test.YthlccadnojnkaaaGreatZn29
set_option maxHeartbeats 8000000
set_option maxRecDepth 100000
namespace Go.Proofs.YthlccadnojnkaaaGreat
open Go.Proofs.Tryz
open Go Go.RowKit Go.Proofs
variable {mv:Value}
theorem J7{l:List T}{x:ByteArray}(j:Nat)(h:j<l.length)(hp:qc x l[j]=true)(hn:∀i (hi:i<j),qc x (l[i]'(by omega))=false):ky l x=(j:Int):=by
 obtain⟨_,_,a⟩:=eN (p:=qc x) l j h hp hn;unfold ky;rw[a]
theorem Ja{l:List T}{x:ByteArray}(hn:∀i (hi:i<l.length),qc x l[i]=false):ky l x=-1:=by
 obtain⟨_,_,a⟩:=iZ (p:=qc x) l hn;unfold ky;rw[a]
theorem bZ(l:List T)(x:ByteArray):(ky l x=-1/\ft l x=false/\be l x=none)∨∃(j:Nat) (h:j<l.length),ky l x=(j:Int)/\ft l x=true/\be l x=some l[j]:=by
 rw[dK];unfold ky be
 have:=jI (p:=qc x) l
 cases h:l.findIdx? (qc x)with
 | none=>rw[h]at this;simp only at this;rw[this];exact .inl ⟨rfl,rfl,rfl⟩
 | some j=>rw[h]at this;obtain⟨a,b,_⟩:=this;rw[b];exact .inr ⟨j,a,rfl,rfl,rfl⟩
theorem cI(l:List C)(x:ByteArray):(gx l x=-1/\dr l x=false/\eo l x=none)∨∃(j:Nat) (h:j<l.length),gx l x=(j:Int)/\dr l x=true/\eo l x=some l[j]:=by
 rw[pN];unfold gx eo
 have:=jI (p:=ns x) l
 cases h:l.findIdx? (ns x)with
 | none=>rw[h]at this;simp only at this;rw[this];exact .inl ⟨rfl,rfl,rfl⟩
 | some j=>rw[h]at this;obtain⟨a,b,_⟩:=this;rw[b];exact .inr ⟨j,a,rfl,rfl,rfl⟩
theorem cJ{ts:List T}{v:Value}{x:ByteArray}{W:World}(h:iu W v ts):Calls prog 36 #[v,.string x] W fun e w'=>e=.returned (.int .i64 (ky ts x))/\w'=W:=by
 obtain⟨p,u,rfl,y,z⟩:=h.slice;obtain⟨n,k⟩:=ag ts.length;unfold maxLen at z;rw[k]at y ⊢;rw[k]at h;have A:=aa h;have l:=aa k;clear h k;go_enter func36,ntmps36;go_wp2_with fail;go_loopg [5] (n+1) (fun B E w=>∃(j:Nat),E=.int .i64 (j:Int)/\j<=n/\n+1<=j+B/\(∀i (h:i<ts.length),i<j->qc x ts[i]=false)/\w=W)
 case atStart=>exact⟨0,rfl,zh _,by omega,fun i _ c=>by omega,rfl⟩
 obtain⟨j,rfl,H,I,f,rfl⟩:=hrel;have m:=aa f;clear f;by_cases g:j<n
 ·have o:j<ts.length:=(by rw[l.out];exact g);obtain⟨b,F,cv,dv,rfl,J,c0,_,_,_,_⟩:=iu.tab A.out o;obtain⟨t,a⟩:=ag (ts[j]);rw[a]at c0;have s:=aa a;clear a;cases d:qc x t
  ·have q:=aa d;have r:(t.nm.toList==x.toList)=false:=(by rw[aR];exact d);clear d;go_wp2_with fail;go_roundg (n-j)
   case measure=>omega
   refine⟨j+1,by go_num,by omega,by omega,fun i c G=>?_,rfl⟩;by_cases e:i=j
   ·subst e;rw[s.out];exact q.out
   exact m.out i c (by omega)
  have q:=aa d;have r:(t.nm.toList==x.toList)=true:=(by rw[aR];exact d);clear d;go_wp2_with fail;go_ret;exact⟨aQ (J7 j (by rw[l.out];exact g) (by rw[s.out];exact q.out) (fun i c=>m.out i _ c)).symm,rfl⟩
 go_wp2_with fail;go_ret;exact⟨aQ (Ja (fun i c=>m.out i c (by have:=l.out;omega))).symm,rfl⟩
theorem tS{l:List C}{i:Nat}(hi:i<l.length):jq l i=(named l[i].nm&&decide (gx l l[i].nm=(i:Int))):=by
 rw[nH hi]
 congr 1
 rcases cI l l[i].nm with ⟨b,d,_⟩ | ⟨j,r,b,_,s⟩
 ·exfalso;unfold dr at d;rw[vn]at d;exact d l[i] (z8 _) (tM _)
 rw[b];have g:=jI (p:=ns l[i].nm) l
 have f:l.findIdx? (ns l[i].nm)=some j:=by
  unfold gx at b;cases h:l.findIdx? (ns l[i].nm)with
  | none=>rw[h]at b;simp at b
  | some k=>rw[h]at b;simp only at b;congr 1 <;> omega
 rw[List.findIdx?_eq_some_iff_getElem]at f;obtain⟨_,m,a⟩:=f
 have n:j<=i:=by
  rcases v6 i j with h|h
  ·exact absurd (tM l[i].nm) (by have:=a i h;simpa [ns]using this)
  exact h
 by_cases e:j=i
 ·subst e;rw[xd rfl,Bool.not_eq_true'];unfold dr;rw[vn];intro c o;obtain⟨k,q,rfl⟩:=xz o;rw[we]at q;rw[List.getElem_take];exact a k (by omega)
 rw[yw (by omega),Bool.not_eq_false'];unfold dr;rw[vq];exact⟨l[j],List.mem_iff_getElem.2 ⟨j,by rw[we];omega,by rw[List.getElem_take]⟩,m⟩
def ju(l:List C)(d:D)(k:Nat):Bool:=match d.left[k]? with|some x=>dr l x&&(!it x d.right&&!ja (d.left.take k) x) | none=>true
theorem fI{l:List C}{d:D}{k:Nat}(hk:k<d.left.length):ju l d k=(dr l d.left[k]&&(!it d.left[k] d.right&&!ja (d.left.take k) d.left[k])):=by
 unfold ju;rw[z6 hk]
theorem tT(l:List C)(d:D):qb l d=((decide (1<=d.left.length)&&decide (d.left.length<=3))&&(dr l d.right&&(List.range d.left.length).all (ju l d))):=by
 unfold qb gg;rw[vf];simp only[zx,xp,xh,Bool.not_eq_true'];constructor
 ·rintro⟨⟨c,b⟩,e,f⟩;refine⟨c,e,fun k a=>?_⟩
  have:=b k a
  rw[kC a]at this;rw[fI a];simp only[zx,Bool.not_eq_true']at this ⊢;refine⟨this.1,?_,this.2⟩;unfold ja at f;rw[vn]at f
  have:=f d.left[k] (z8 _)
  rw[jH];simpa using this
 rintro⟨c,e,b⟩;refine⟨⟨c,fun k a=>?_⟩,e,?_⟩
 ·have:=b k a
  rw[fI a]at this;rw[kC a];simp only[zx,Bool.not_eq_true']at this ⊢;exact⟨this.1,this.2.2⟩
 unfold ja;rw[vn];intro x g;obtain⟨k,a,rfl⟩:=xz g
 have:=b k a
 rw[fI a]at this;simp only[zx,Bool.not_eq_true']at this;rw[jH,this.2.1];decide
theorem nK(l:List ByteArray)(j:Nat)(h:j<l.length)(x:ByteArray):ja (l.take (j+1)) x=(ja (l.take j) x || it x l[j]):=by
 unfold ja;rw[yp h,List.any_append,List.any_cons,List.any_nil,Bool.or_false]
theorem eQ{x:ByteArray}{b:Bool}(h:named x=b)(w:World)(hs:x.size<=maxLen):Calls prog 143 #[.string x] w fun e w'=>e=.returned (.bool b)/\Below w.heap.size w w':=h▸tL x w hs
theorem rH(l:List C)(x:ByteArray):decide (gx l x<0)=!dr l x:=by
 rcases cI l x with ⟨a,b,_⟩ | ⟨j,_,a,b,_⟩
 ·rw[a,b];rfl
 rw[a,b];simp
theorem GQ(l:List T)(x:ByteArray):decide (0<=ky l x)=ft l x:=by
 rcases bZ l x with ⟨a,b,_⟩ | ⟨j,_,a,b,_⟩
 ·rw[a,b];rfl
 rw[a,b];simp
theorem xL{t:T}{cv dv v:Value}{ts:List T}{W:World}(h:ey W cv dv t)(hs:iu W v ts)(hsm:xb t):Calls prog 104 #[v,.agg #[.string t.nm,cv,.string t.key,dv]] W fun e w'=>e=.returned (.bool (aw ts t))/\Below W.heap.size W w':=by
 have HK:=aa (fm.new h);have b2:=hs.later (aD W (ax t.nm cv t.key dv));obtain⟨pc,G,c7,hc,hm⟩:=h.c.slice;obtain⟨p,o,c8,e6,e7⟩:=h.d.slice;obtain⟨n,hn⟩:=ag t.cols.length;obtain⟨nd,b3⟩:=ag t.deps.length;obtain⟨B,hB⟩:=ag W.heap.size;unfold maxLen at hm e7;rw[b3]at c8 e6;rw[hn]at c7 hc;subst c7 c8;have HN:=aa (ab hn b3);rw[hB]at HK;have A:=aa hB;have SM:=aa (ab hsm.1 hsm.2);obtain⟨w0,b4⟩:=ag (W.alloc (ax t.nm (.slice pc n G) t.key (.slice p nd o)));rw[b4]at b2 HK;have HW:=aa b4;have d0:=aa b2;obtain⟨d1,z0,z1,z2,z3⟩:=HK.out.cells;have E:=GQ ts t.nm;have L:=(fun(w:World) (s:Below w0.heap.size w0 w)=>cJ (x:=t.nm) (d0.out.later s));clear h hs b2 hn b3 hB b4 hsm;cases Q:named t.nm
 ·have I:Hid (aw ts t=false):=aa (by unfold aw free;rw[Q];rfl);clear E L;go_enter func104,ntmps104;go_upto_region 1 with fail;rw[HW.out,A.out];go_wp2_with (go_at_call 143;refine(eQ Q _ SM.1).mono ?_;rintro e w1⟨rfl,s⟩);go_ret;exact⟨aH I.out.symm,A.out▸(HK.out.on s).below⟩
 cases V:ft ts t.nm
 rotate_left
 ·have I:Hid (aw ts t=false):=aa (by unfold aw free;rw[Q,V];rfl);rw[V]at E;generalize ky ts t.nm=z at E L;have hz:0<=z:=wj E;clear E V;go_enter func104,ntmps104;go_upto_region 1 with fail;rw[HW.out,A.out]
  go_wp2_with (first|(go_at_call 143;refine(eQ Q _ SM.1).mono ?_;rintro e w1⟨rfl,s⟩;have K1:=aa (HK.out.on s);obtain⟨u0,u1,u2,u3,u4⟩:=K1.out.cells;have hf:=L _ s;clear L)|(go_at_call 36;refine hf.mono ?_;rintro e w2⟨rfl,rfl⟩))
  go_ret;exact⟨aH I.out.symm,A.out▸K1.out.below⟩
 have HL:Hid (aw ts t=(jh t.cols&&(bi t&&jj t.cols t.deps))):=aa (by unfold aw free;rw[Q,V];rfl);rw[V]at E;generalize ky ts t.nm=z at E L;have hz:¬ 0<=z:=of_decide_eq_false E;clear E V;go_enter func104,ntmps104;go_upto_region 1 with fail;rw[HW.out,A.out]
 go_wp2_with (first|(go_at_call 143;refine(eQ Q _ SM.1).mono ?_;rintro e w1⟨rfl,s⟩;have K1:=aa (HK.out.on s);obtain⟨u0,u1,u2,u3,u4⟩:=K1.out.cells;have hf:=L _ s;clear L)|(go_at_call 36;refine hf.mono ?_;rintro e w2⟨rfl,rfl⟩))
 clear Q hz hf d0 z0 z1 z2 z3 d1 u0 u1 u2 u3 u4 HK;go_loopg [5] (n+1) (fun gh jv w=>∃(j:Nat),jv=.int .i64 (j:Int)/\j<=n/\n+1<=j+gh/\(∀i,i<j->jq t.cols i=true)/\fm B W B t (.slice pc n G) (.slice p nd o) w)
 case atStart=>exact⟨0,rfl,zh _,by omega,fun i hi=>by omega,K1.out⟩
 obtain⟨j,rfl,hj,hg,d2,H⟩:=hrel;have HI:=aa (ab d2 H);clear d2;obtain⟨u0,_,u2,u3,u4⟩:=H.cells;by_cases e8:j<n
 ·have a0:j<t.cols.length:=(by rw[HN.1];exact e8);obtain⟨b,f,rfl,d3,_⟩:=fu.col H.tab.c a0;have M:=tS a0;obtain⟨c,a6⟩:=ag (t.cols[j]);have HC:Hid (∀w,fu w (.slice (some ⟨b,f,none⟩) n G) t.cols->w.cell? ⟨b,f+j*4,none⟩=some (.string c.nm)):=aa (fun w O=>by rw[<-a6];exact(fu.AU O a0).2.1);have b5:c.nm.size<=maxLen:=SM.2 c (by rw[<-a6];exact z8 _);rw[a6]at M;have f2:(j:Int)<(n:Int):=(by omega);clear H a6 d3;go_upto_region 6 with fail;cases X:named c.nm
  ·have I:Hid (jq t.cols j=false):=aa (by rw[M,X];rfl);clear M;refine Par.ae 20 [.pointer (some ⟨B,1,none⟩),.slice (some ⟨b,f,none⟩) n G,.int .i64 j,.pointer (some ⟨b,f+j*4,none⟩),.pointer (some ⟨b,f+j*4,none⟩),.string c.nm,.bool false,.bool true,.bool true,undef,undef,undef,undef,undef,undef,undef,undef,undef,undef,.bool true] (fm B W B t (.slice (some ⟨b,f,none⟩) n G) (.slice p nd o)) ?A1 ?hm1 ?hB1 ?hA1 (HI.2.on (aF wr)) ?hop1 ?hT1
   case hm1=>kernel_rfl
   case hB1=>kernel_rfl
   case hA1 =>
    simp only[Par.am,Par.ai,Act.put,cy,db,bt,cp,dc,da,bu,eg,ed];rfl
   case hop1 =>
    simp only[ce,ze,Par.ah,yu];and_intros<;>intro w' a<;>have F:=aa a
    rotate_left;have k:=a.cells.2.2.1;rotate_left 4;have k:=HC.out w' a.tab.c;rotate_left
    ·clear a;simp only[Par.Gives];go_simp;exact(eQ X w' b5).mono (fun e R⟨J,s⟩=>⟨J,F.out.on s⟩)
    rotate_left 13
    all_goals(clear a;simp only[Par.Gives];go_simp;all_goals exact F.out)
   intro w' a;simp only[cw,yq];go_wp2_with fail;go_ret;exact⟨aH (by rw[HL.out];unfold jh;rw[bG j a0 I.out];rfl),A.out▸a.below⟩
  have r:=(fun(w:World) (O:ey w (.slice (some ⟨b,f,none⟩) n G) (.slice p nd o) t)=>bU (x:=c.nm) O);obtain⟨z,b6⟩:=ag (gx t.cols c.nm);rw[b6]at r M;by_cases a7:z=(j:Int)
  ·have I:Hid (jq t.cols j=true):=aa (by rw[M,X,xd a7];rfl);subst a7;clear M b6;refine Par.ae 20 [.pointer (some ⟨B,1,none⟩),.slice (some ⟨b,f,none⟩) n G,.int .i64 j,.pointer (some ⟨b,f+j*4,none⟩),.pointer (some ⟨b,f+j*4,none⟩),.string c.nm,.bool true,.bool false,.bool false,.agg #[.string t.nm,.slice (some ⟨b,f,none⟩) n G,.string t.key,.slice p nd o],.pointer (some ⟨B,1,none⟩),.slice (some ⟨b,f,none⟩) n G,.int .i64 j,.pointer (some ⟨b,f+j*4,none⟩),.pointer (some ⟨b,f+j*4,none⟩),.string c.nm,.int .i64 j,.int .i64 j,.bool false,.bool false] (fm B W B t (.slice (some ⟨b,f,none⟩) n G) (.slice p nd o)) ?A2 ?hm2 ?hB2 ?hA2 (HI.2.on (aF wr)) ?hop2 ?hT2
   case hm2=>kernel_rfl
   case hB2=>kernel_rfl
   case hA2 =>
    simp only[Par.am,Par.ai,Act.put,cy,db,bt,cp,dc,da,bu,eg,ed];rfl
   case hop2 =>
    simp only[ce,ze,Par.ah,yu];and_intros<;>intro w' a<;>have F:=aa a
    rotate_left;have k:=a.cells.2.2.1;rotate_left 4;have k:=HC.out w' a.tab.c;rotate_left
    ·clear a;simp only[Par.Gives];go_simp;exact(eQ X w' b5).mono (fun e R⟨J,s⟩=>⟨J,F.out.on s⟩)
    rotate_left 2;have k0:=a.cells.1;have k1:=a.cells.2.1;have k2:=a.cells.2.2.1;have k3:=a.cells.2.2.2.1;have k4:=a.cells.2.2.2.2;rotate_left 2;have k:=a.cells.2.2.1;rotate_left 4;have k:=HC.out w' a.tab.c;rotate_left
    ·clear a;simp only[Par.Gives];go_simp;exact(r _ F.out.tab).mono (fun e R⟨J,s⟩=>⟨J,F.out.on s⟩)
    rotate_left 3
    all_goals(clear a;simp only[Par.Gives];go_simp;all_goals exact F.out)
   intro w' a;simp only[cw,yq];go_wp2_with fail;go_roundg (n-j)
   case measure=>omega
   exact⟨j+1,by go_num,by omega,by omega,fun i hi=>by rcases(by omega:i<j∨i=j)with h|rfl;exact HI.1 i h;exact I.out,a⟩
  have I:Hid (jq t.cols j=false):=aa (by rw[M,X,yw a7];rfl);have e1:(z==(j:Int))=false:=beq_eq_false_iff_ne.2 a7;clear M b6;refine Par.ae 20 [.pointer (some ⟨B,1,none⟩),.slice (some ⟨b,f,none⟩) n G,.int .i64 j,.pointer (some ⟨b,f+j*4,none⟩),.pointer (some ⟨b,f+j*4,none⟩),.string c.nm,.bool true,.bool false,.bool false,.agg #[.string t.nm,.slice (some ⟨b,f,none⟩) n G,.string t.key,.slice p nd o],.pointer (some ⟨B,1,none⟩),.slice (some ⟨b,f,none⟩) n G,.int .i64 j,.pointer (some ⟨b,f+j*4,none⟩),.pointer (some ⟨b,f+j*4,none⟩),.string c.nm,.int .i64 z,.int .i64 j,.bool true,.bool true] (fm B W B t (.slice (some ⟨b,f,none⟩) n G) (.slice p nd o)) ?A3 ?hm3 ?hB3 ?hA3 (HI.2.on (aF wr)) ?hop3 ?hT3
  case hm3=>kernel_rfl
  case hB3=>kernel_rfl
  case hA3 =>
   simp only[Par.am,Par.ai,Act.put,cy,db,bt,cp,dc,da,bu,eg,ed];rfl
  case hop3 =>
   simp only[ce,ze,Par.ah,yu];and_intros<;>intro w' a<;>have F:=aa a
   rotate_left;have k:=a.cells.2.2.1;rotate_left 4;have k:=HC.out w' a.tab.c;rotate_left
   ·clear a;simp only[Par.Gives];go_simp;exact(eQ X w' b5).mono (fun e R⟨J,s⟩=>⟨J,F.out.on s⟩)
   rotate_left 2;have k0:=a.cells.1;have k1:=a.cells.2.1;have k2:=a.cells.2.2.1;have k3:=a.cells.2.2.2.1;have k4:=a.cells.2.2.2.2;rotate_left 2;have k:=a.cells.2.2.1;rotate_left 4;have k:=HC.out w' a.tab.c;rotate_left
   ·clear a;simp only[Par.Gives];go_simp;exact(r _ F.out.tab).mono (fun e R⟨J,s⟩=>⟨J,F.out.on s⟩)
   rotate_left 3
   all_goals(clear a;simp only[Par.Gives];go_simp;all_goals exact F.out)
  intro w' a;simp only[cw,yq];go_wp2_with fail;go_ret;exact⟨aH (by rw[HL.out];unfold jh;rw[bG j a0 I.out];rfl),A.out▸a.below⟩
 have d4:Hid (aw ts t=(bi t&&jj t.cols t.deps)):=aa (by rw[HL.out];unfold jh;rw[bY (fun i hi=>HI.1 i (by have:=HN.1;omega))];rfl);go_upto_region 8 with fail
 go_cut [57]from 300 to 300 (fun gv wx=>gv=.bool (!bi t)/\fm B W B t (.slice pc n G) (.slice p nd o) wx)
 case first =>
  cases hk:it t.key e0
  ·have J:t.key.toList.isEmpty=false:=(by rw[dC];exact hk);have r:=bU (x:=t.key) H.tab;have g:=rH t.cols t.key;have I:Hid (bi t=dr t.cols t.key):=aa (by unfold bi;rw[hk];rfl);generalize gx t.cols t.key=z at r g;cases P:dr t.cols t.key
   ·rw[P]at g I;have hz:z<0:=wj g;clear H hk g P;go_wp2_with (go_at_call 78;refine r.mono ?_;rintro e w2⟨rfl,s⟩);go_meet;exact⟨by rw[I.out];rfl,HI.2.on s⟩
   rw[P]at g I;have hz:¬ z<0:=of_decide_eq_false g;clear H hk g P;go_wp2_with (go_at_call 78;refine r.mono ?_;rintro e w2⟨rfl,s⟩);go_meet;exact⟨by rw[I.out];simp;omega,HI.2.on s⟩
  have J:t.key.toList.isEmpty=true:=(by rw[dC];exact hk);have I:Hid (bi t=true):=aa (by unfold bi;rw[hk];rfl);clear H hk;go_wp2_with fail;go_meet;exact⟨by rw[I.out];rfl,HI.2⟩
 obtain⟨rfl,d5⟩:=hcut;have K8:=aa d5;clear d5 H u0 u2 u3 u4;cases b7:bi t
 ·go_wp2_with fail;go_ret;exact⟨aH (by rw[d4.out,b7];rfl),A.out▸K8.out.below⟩
 have d6:Hid (aw ts t=jj t.cols t.deps):=aa (by rw[d4.out,b7];rfl);clear b7;go_wp2_with fail;go_loopg [6] (nd+1) (fun gh jv w=>∃(j:Nat),jv=.int .i64 (j:Int)/\j<=nd/\nd+1<=j+gh/\(∀i,i<j->jn t.cols t.deps i=true)/\fm B W B t (.slice pc n G) (.slice p nd o) w)
 case atStart=>exact⟨0,rfl,zh _,by omega,fun i hi=>by omega,K8.out⟩
 obtain⟨Y,rfl,f3,f4,a8,H⟩:=hrel;have b8:=aa (ab a8 H);clear a8;obtain⟨u0,_,u2,u3,u4⟩:=H.cells;by_cases d7:Y<nd
 ·have a1:Y<t.deps.length:=(by rw[HN.2];exact d7);obtain⟨b,f,lv,rfl,s,c0,c1,a2⟩:=pz.dep H.tab.d a1;obtain⟨d,b9⟩:=ag (t.deps[Y])
  have M:jn t.cols t.deps Y=((decide (1<=d.left.length)&&decide (d.left.length<=3))&&(dr t.cols d.right&&(List.range d.left.length).all (ju t.cols d))):=by
   unfold jn;rw[z6 a1,b9];exact tT _ _
  rw[b9]at c1 a2;obtain⟨pl,cl,rfl,d8,d9⟩:=a2.slice;unfold maxLen at d9;obtain⟨nl,c4⟩:=ag d.left.length;rw[c4]at a2 c0 M d8;have HD:=aa (iy.new H a2);have e3:=aa c4;clear b9 H a2 c4;go_upto_region 14 with fail;obtain⟨S,hS⟩:=ag wr.heap.size;obtain⟨w1,e4⟩:=ag (wr.alloc (.cells #[.slice pl nl cl,.string d.right] 124));rw[e4,hS]at HD ⊢;clear e4 hS c0 c1 s u0 u2 u3 u4;obtain⟨y0,y1,y2⟩:=HD.out.cells;obtain⟨u0,u1,u2,u3,u4⟩:=HD.out.tb.cells;have a9:jn t.cols t.deps Y=false->aw ts t=false:=(fun h=>by rw[d6.out];exact bG Y a1 h);have U:=aa a9;clear a9;by_cases h1:nl<1
  ·have I:Hid (jn t.cols t.deps Y=false):=aa (by rw[M,yw (show ¬ 1<=nl by omega)];rfl);clear M;go_wp2_with fail;go_ret;exact⟨aH (U.out I.out).symm,A.out▸HD.out.tb.below⟩
  by_cases h3:3<nl
  ·have I:Hid (jn t.cols t.deps Y=false):=aa (by rw[M,yw (show ¬ nl<=3 by omega),Bool.and_false];rfl);clear M;go_wp2_with fail;go_ret;exact⟨aH (U.out I.out).symm,A.out▸HD.out.tb.below⟩
  rw[xd (show 1<=nl by omega),xd (show nl<=3 by omega),vt,vt]at M;have r:=bU (x:=d.right) HD.out.tb.tab;have g:=rH t.cols d.right;generalize gx t.cols d.right=z at r g;cases P:dr t.cols d.right
  ·rw[P]at g M;have hz:z<0:=wj g;have I:Hid (jn t.cols t.deps Y=false):=aa M;clear g P M;go_wp2_with (go_at_call 78;refine r.mono ?_;rintro e w2⟨rfl,s⟩);go_ret;exact⟨aH (U.out I.out).symm,A.out▸(HD.out.on s).tb.below⟩
  rw[P,vt]at M;rw[P]at g;have hz:¬ z<0:=of_decide_eq_false g;have I:=aa M;clear g P M;go_wp2_with (go_at_call 78;refine r.mono ?_;rintro e w2⟨rfl,s⟩;have K2:=aa (HD.out.on s);clear s);clear hz r y0 y1 y2 u0 u1 u2 u3 u4;go_loopg [8] (nl+1) (fun gh kv w=>∃(k:Nat),kv=.int .i64 (k:Int)/\k<=nl/\nl+1<=k+gh/\(∀i,i<k->ju t.cols d i=true)/\iy B W B S t (.slice pc n G) (.slice (some ⟨b,f,none⟩) nd o) d (.slice pl nl cl) w)
  case atStart=>exact⟨0,rfl,zh _,by omega,fun i hi=>by omega,K2.out⟩
  obtain⟨k,rfl,hk,f5,b0,H⟩:=hrel;have a3:=aa (ab b0 H);clear b0;obtain⟨y0,y1,y2⟩:=H.cells;obtain⟨u0,_,u2,u3,u4⟩:=H.tb.cells;by_cases b1:k<nl
  ·have c5:k<d.left.length:=(by rw[e3.out];exact b1);obtain⟨bl,ol,rfl,d3,_⟩:=lg.word H.left c5;have N:=fI (l:=t.cols) c5;obtain⟨x,hx⟩:=ag (d.left[k]);have HX:Hid (∀w,lg w (.slice (some ⟨bl,ol,none⟩) nl cl) d.left->w.cell? ⟨bl,ol+k,none⟩=some (.string x)):=aa (fun w O=>by rw[<-hx];exact(lg.Aq O c5).2);rw[hx]at N;have f6:(k:Int)<(nl:Int):=(by omega);have r:=(fun(w:World) (O:ey w (.slice pc n G) (.slice (some ⟨b,f,none⟩) nd o) t)=>bU (x:=x) O);have g:=rH t.cols x;generalize gx t.cols x=z at r g;have a4:ju t.cols d k=false->aw ts t=false:=(fun h=>U.out (by rw[I.out];exact bG k b1 h));have c6:=aa a4;clear H hx a4;go_upto_region 19 with fail;clear y0 y1 y2 u0 u2 u3 u4;cases P:dr t.cols x
   ·rw[P]at g N;have hz:z<0:=wj g;have Z:Hid (ju t.cols d k=false):=aa N;clear g N P;refine Par.ae 18 [.agg #[.string t.nm,.slice pc n G,.string t.key,.slice (some ⟨b,f,none⟩) nd o],.pointer (some ⟨S,0,none⟩),.slice (some ⟨bl,ol,none⟩) nl cl,.int .i64 k,.pointer (some ⟨bl,ol+k,none⟩),.string x,.int .i64 z,.bool true,.bool true,undef,undef,undef,undef,undef,undef,undef,undef,.bool true] (iy B W B S t (.slice pc n G) (.slice (some ⟨b,f,none⟩) nd o) d (.slice (some ⟨bl,ol,none⟩) nl cl)) ?A4 ?hm4 ?hB4 ?hA4 (a3.2.on (aF wr)) ?hop4 ?hT4
    case hm4=>kernel_rfl
    case hB4=>kernel_rfl
    case hA4 =>
     simp only[Par.am,Par.ai,Act.put,cy,db,bt,cp,dc,da,bu,eg,ed];rfl
    case hop4 =>
     simp only[ce,ze,Par.ah,yu];and_intros<;>intro w' a<;>have F:=aa a
     have k0:=a.tb.cells.1;have k1:=a.tb.cells.2.1;have k2:=a.tb.cells.2.2.1;have k3:=a.tb.cells.2.2.2.1;have k4:=a.tb.cells.2.2.2.2;rotate_left 2;have k:=a.cells.2.1;rotate_left 3;have k:=HX.out w' a.left;rotate_left
     ·clear a;simp only[Par.Gives];go_simp;exact(r _ F.out.tb.tab).mono (fun e R⟨J,s⟩=>⟨J,F.out.on s⟩)
     rotate_left 11
     all_goals(clear a;simp only[Par.Gives];go_simp;all_goals exact F.out)
    intro w' a;simp only[cw,yq];go_wp2_with fail;go_ret;exact⟨aH (c6.out Z.out).symm,A.out▸a.tb.below⟩
   rw[P,vt]at N;rw[P]at g;have hz:¬ z<0:=of_decide_eq_false g;clear g P;cases O:it x d.right
   rotate_left
   ·have e1:(x.toList==d.right.toList)=true:=(by rw[aR];exact O);have Z:Hid (ju t.cols d k=false):=aa (by rw[N,O];rfl);clear N O;refine Par.ae 18 [.agg #[.string t.nm,.slice pc n G,.string t.key,.slice (some ⟨b,f,none⟩) nd o],.pointer (some ⟨S,0,none⟩),.slice (some ⟨bl,ol,none⟩) nl cl,.int .i64 k,.pointer (some ⟨bl,ol+k,none⟩),.string x,.int .i64 z,.bool false,.bool false,.pointer (some ⟨S,0,none⟩),.slice (some ⟨bl,ol,none⟩) nl cl,.int .i64 k,.pointer (some ⟨bl,ol+k,none⟩),.string x,.pointer (some ⟨S,1,none⟩),.string d.right,.bool true,.bool true] (iy B W B S t (.slice pc n G) (.slice (some ⟨b,f,none⟩) nd o) d (.slice (some ⟨bl,ol,none⟩) nl cl)) ?A5 ?hm5 ?hB5 ?hA5 (a3.2.on (aF wr)) ?hop5 ?hT5
    case hm5=>kernel_rfl
    case hB5=>kernel_rfl
    case hA5 =>
     simp only[Par.am,Par.ai,Act.put,cy,db,bt,cp,dc,da,bu,eg,ed];rfl
    case hop5 =>
     simp only[ce,ze,Par.ah,yu];and_intros<;>intro w' a<;>have F:=aa a
     have k0:=a.tb.cells.1;have k1:=a.tb.cells.2.1;have k2:=a.tb.cells.2.2.1;have k3:=a.tb.cells.2.2.2.1;have k4:=a.tb.cells.2.2.2.2;rotate_left 2;have k:=a.cells.2.1;rotate_left 3;have k:=HX.out w' a.left;rotate_left
     ·clear a;simp only[Par.Gives];go_simp;exact(r _ F.out.tb.tab).mono (fun e R⟨J,s⟩=>⟨J,F.out.on s⟩)
     rotate_left 3;have k:=a.cells.2.1;rotate_left 3;have k:=HX.out w' a.left;rotate_left 2;have k:=a.cells.2.2;rotate_left 3
     all_goals(clear a;simp only[Par.Gives];go_simp;all_goals exact F.out)
    intro w' a;simp only[cw,yq];go_wp2_with fail;go_ret;exact⟨aH (c6.out Z.out).symm,A.out▸a.tb.below⟩
   have e1:(x.toList==d.right.toList)=false:=(by rw[aR];exact O);have Z:Hid (ju t.cols d k=!ja (d.left.take k) x):=aa (by rw[N,O];rfl);clear N O;refine Par.ae 18 [.agg #[.string t.nm,.slice pc n G,.string t.key,.slice (some ⟨b,f,none⟩) nd o],.pointer (some ⟨S,0,none⟩),.slice (some ⟨bl,ol,none⟩) nl cl,.int .i64 k,.pointer (some ⟨bl,ol+k,none⟩),.string x,.int .i64 z,.bool false,.bool false,.pointer (some ⟨S,0,none⟩),.slice (some ⟨bl,ol,none⟩) nl cl,.int .i64 k,.pointer (some ⟨bl,ol+k,none⟩),.string x,.pointer (some ⟨S,1,none⟩),.string d.right,.bool false,.bool false] (iy B W B S t (.slice pc n G) (.slice (some ⟨b,f,none⟩) nd o) d (.slice (some ⟨bl,ol,none⟩) nl cl)) ?A6 ?hm6 ?hB6 ?hA6 (a3.2.on (aF wr)) ?hop6 ?hT6
   case hm6=>kernel_rfl
   case hB6=>kernel_rfl
   case hA6 =>
    simp only[Par.am,Par.ai,Act.put,cy,db,bt,cp,dc,da,bu,eg,ed];rfl
   case hop6 =>
    simp only[ce,ze,Par.ah,yu];and_intros<;>intro w' a<;>have F:=aa a
    have k0:=a.tb.cells.1;have k1:=a.tb.cells.2.1;have k2:=a.tb.cells.2.2.1;have k3:=a.tb.cells.2.2.2.1;have k4:=a.tb.cells.2.2.2.2;rotate_left 2;have k:=a.cells.2.1;rotate_left 3;have k:=HX.out w' a.left;rotate_left
    ·clear a;simp only[Par.Gives];go_simp;exact(r _ F.out.tb.tab).mono (fun e R⟨J,s⟩=>⟨J,F.out.on s⟩)
    rotate_left 3;have k:=a.cells.2.1;rotate_left 3;have k:=HX.out w' a.left;rotate_left 2;have k:=a.cells.2.2;rotate_left 3
    all_goals(clear a;simp only[Par.Gives];go_simp;all_goals exact F.out)
   intro w' a;simp only[cw,yq];have e9:=aa a;clear a e1 hz r;go_wp2_with fail;go_loopg [9] (k+1) (fun gh mv w=>∃(m:Nat),mv=.int .i64 (m:Int)/\m<=k/\k+1<=m+gh/\ja (d.left.take m) x=false/\iy B W B S t (.slice pc n G) (.slice (some ⟨b,f,none⟩) nd o) d (.slice (some ⟨bl,ol,none⟩) nl cl) w)
   case atStart=>exact⟨0,rfl,zh _,by omega,rfl,e9.out⟩
   obtain⟨m,rfl,f7,f8,a5,H⟩:=hrel;by_cases f1:m<k
   ·have e5:m<d.left.length:=(by rw[e3.out];omega);obtain⟨y,hy⟩:=ag (d.left[m]);have HY:Hid (∀w,lg w (.slice (some ⟨bl,ol,none⟩) nl cl) d.left->w.cell? ⟨bl,ol+m,none⟩=some (.string y)):=aa (fun w O=>by rw[<-hy];exact(lg.Aq O e5).2);have u:=nK d.left m e5 x;rw[hy,a5,Bool.false_or]at u;have f9:(m:Int)<(nl:Int):=(by omega);have HK:=aa H;clear H hy a5;go_upto_region 24 with fail;cases J:it x y
    ·have e2:(y.toList==x.toList)=false:=(by rw[aR,jH];exact J);have HE:Hid (ja (d.left.take (m+1)) x=false):=aa (by rw[u];exact J);clear u J;refine Par.ae 11 [.pointer (some ⟨S,0,none⟩),.slice (some ⟨bl,ol,none⟩) nl cl,.int .i64 m,.pointer (some ⟨bl,ol+m,none⟩),.string y,.pointer (some ⟨S,0,none⟩),.slice (some ⟨bl,ol,none⟩) nl cl,.int .i64 k,.pointer (some ⟨bl,ol+k,none⟩),.string x,.bool false] (iy B W B S t (.slice pc n G) (.slice (some ⟨b,f,none⟩) nd o) d (.slice (some ⟨bl,ol,none⟩) nl cl)) ?A7 ?hm7 ?hB7 ?hA7 (HK.out.on (aF wr)) ?hop7 ?hT7
     case hm7=>kernel_rfl
     case hB7=>kernel_rfl
     case hA7 =>
      simp only[Par.am,Par.ai,Act.put,cy,db,bt,cp,dc,da,bu,eg,ed];rfl
     case hop7 =>
      simp only[ce,ze,Par.ah,yu];and_intros<;>intro w' a<;>have F:=aa a
      rotate_left;have k:=a.cells.2.1;rotate_left 3;have k:=HY.out w' a.left;rotate_left 2;have k:=a.cells.2.1;rotate_left 3;have k:=HX.out w' a.left;rotate_left 2
      all_goals(clear a;simp only[Par.Gives];go_simp;all_goals exact F.out)
     intro w' a;simp only[cw,yq];go_wp2_with fail;go_roundg (k-m)
     case measure=>omega
     exact⟨m+1,by go_num,by omega,by omega,HE.out,a⟩
    have e2:(y.toList==x.toList)=true:=by rw[aR,jH];exact J
    have HE:Hid (ja (d.left.take k) x=true):=aa (by
     unfold ja;rw[vq];rw[J]at u;unfold ja at u;rw[vq]at u;obtain⟨q,hq,f0⟩:=u;exact⟨q,(List.take_subset_take_left d.left (by omega)) hq,f0⟩)
    clear u J;refine Par.ae 11 [.pointer (some ⟨S,0,none⟩),.slice (some ⟨bl,ol,none⟩) nl cl,.int .i64 m,.pointer (some ⟨bl,ol+m,none⟩),.string y,.pointer (some ⟨S,0,none⟩),.slice (some ⟨bl,ol,none⟩) nl cl,.int .i64 k,.pointer (some ⟨bl,ol+k,none⟩),.string x,.bool true] (iy B W B S t (.slice pc n G) (.slice (some ⟨b,f,none⟩) nd o) d (.slice (some ⟨bl,ol,none⟩) nl cl)) ?A8 ?hm8 ?hB8 ?hA8 (HK.out.on (aF wr)) ?hop8 ?hT8
    case hm8=>kernel_rfl
    case hB8=>kernel_rfl
    case hA8 =>
     simp only[Par.am,Par.ai,Act.put,cy,db,bt,cp,dc,da,bu,eg,ed];rfl
    case hop8 =>
     simp only[ce,ze,Par.ah,yu];and_intros<;>intro w' a<;>have F:=aa a
     rotate_left;have k:=a.cells.2.1;rotate_left 3;have k:=HY.out w' a.left;rotate_left 2;have k:=a.cells.2.1;rotate_left 3;have k:=HX.out w' a.left;rotate_left 2
     all_goals(clear a;simp only[Par.Gives];go_simp;all_goals exact F.out)
    intro w' a;simp only[cw,yq];go_wp2_with fail;go_ret;exact⟨aH (c6.out (by rw[Z.out,HE.out];rfl)).symm,A.out▸a.tb.below⟩
   obtain rfl:m=k:=(by omega);go_wp2_with fail;go_roundg (nl-m)
   case measure=>omega
   exact⟨m+1,by go_num,by omega,by omega,fun i hi=>by rcases(by omega:i<m∨i=m)with h|rfl;exact a3.1 i h;rw[Z.out,a5];rfl,H⟩
  obtain rfl:k=nl:=(by omega);go_wp2_with fail;go_roundg (nd-Y)
  case measure=>omega
  exact⟨Y+1,by go_num,by omega,by omega,fun i hi=>by rcases(by omega:i<Y∨i=Y)with h|rfl;exact b8.1 i h;rw[I.out];exact bY a3.1,H.tb⟩
 go_wp2_with fail;go_ret;exact⟨aH (by rw[d6.out];exact(bY (fun i hi=>b8.1 i (by have:=HN.2;omega))).symm),A.out▸b8.2.below⟩
theorem pP{t:T}{cv dv v:Value}{ts:List T}{W:World}{b:Bool}(h:ey W cv dv t)(hs:iu W v ts)(hsm:xb t)(hb:aw ts t=b):Calls prog 104 #[v,.agg #[.string t.nm,cv,.string t.key,dv]] W fun e w'=>e=.returned (.bool b)/\Below W.heap.size W w':=hb▸xL h hs hsm
theorem Jo{ts:List T}(hi:mh ts)(c:C)(hne:it c.tgt e0=false):(ky ts c.tgt=-1/\leads ts c=3)∨∃(k:Nat) (d:k<ts.length),ky ts c.tgt=(k:Int)/\((it ts[k].key e0=true/\leads ts c=9)∨(it ts[k].key e0=false/\∃(q:Nat) (h:q<ts[k].cols.length),gx ts[k].cols ts[k].key=(q:Int)/\leads ts c=if ts[k].cols[q].kd=c.kd then 0 else 4)):=by
 rcases bZ ts c.tgt with ⟨e,_,f⟩ | ⟨k,d,e,_,f⟩
 ·left
  refine⟨e,?_⟩;unfold leads;rw[hne,f];rfl
 right
 refine⟨k,d,e,?_⟩
 have i:leads ts c=(match eo ts[k].cols ts[k].key with|none=>(9:Int) | some q=>if q.kd=c.kd then 0 else 4):=by
  unfold leads;rw[hne,f];rfl
 have j:=z8 d;cases a:it ts[k].key e0
 ·right
  refine⟨rfl,?_⟩;have b:=hi.key _ j;unfold bi at b;rw[a,Bool.false_or]at b;rcases cI ts[k].cols ts[k].key with ⟨_,g,_⟩ | ⟨q,h,g,_,l⟩
  ·rw[g]at b;cases b
  refine⟨q,h,g,?_⟩;rw[i,l]
 left
 refine⟨rfl,?_⟩;rw[eZ]at a;rw[i,a,Kn (hi.col _ j)]
theorem Jp{t:T}{cv dv v:Value}{ts:List T}{W:World}(h:ey W cv dv t)(hs:iu W v ts)(Z:mh ts)(hsm:xb t):Calls prog 67 #[v,.agg #[.string t.nm,cv,.string t.key,dv]] W fun e w'=>e=.returned (.int .i64 (ea ts t))/\Below W.heap.size W w':=by
 have F:=aa (show qz W.heap.size W W.heap.size t cv dv v ts _ from⟨fm.new h,hs.later (aD W (ax t.nm cv t.key dv))⟩);obtain⟨pc,cc,a9,hc,hm⟩:=h.c.slice;obtain⟨p,a2,b0,c8,d0⟩:=h.d.slice;obtain⟨pv,g,hv,b1,d1⟩:=hs.slice;obtain⟨n,hn⟩:=ag t.cols.length;obtain⟨nd,U⟩:=ag t.deps.length;obtain⟨m,I⟩:=ag ts.length;obtain⟨B,hB⟩:=ag W.heap.size;unfold maxLen at hm d0 d1;rw[U]at b0 c8;rw[hn]at a9 hc;rw[I]at hv b1;subst a9 b0 hv;have G:lim ts t=(decide (8<=m) || (decide (n<1) || (decide (6<n) || decide (3<nd)))):=(by unfold lim;rw[hn,U,I]);have HN:=aa (ab hn (ab U I));rw[hB]at F;have a:=aa hB;have SM:=aa (ab hsm Z);obtain⟨w0,a3⟩:=ag (W.alloc (ax t.nm (.slice pc n cc) t.key (.slice p nd a2)));rw[a3]at F;have HW:=aa a3;obtain⟨b2,z0,z1,z2,z3⟩:=F.out.tb.cells;clear h hs hn U I hB a3 hsm Z;by_cases N:lim ts t=true
 ·have r:Hid (ea ts t=5):=aa (by unfold ea;rw[zv N]);rw[G]at N;clear G;by_cases q1:8<=m
  ·clear N;go_enter func67,ntmps67;go_upto_region 1 with fail;rw[HW.out,a.out];go_wp2_with fail;go_ret;exact⟨aQ r.out.symm,a.out▸F.out.tb.below⟩
  by_cases q2:n<1
  ·clear N;go_enter func67,ntmps67;go_upto_region 1 with fail;rw[HW.out,a.out];go_wp2_with fail;go_ret;exact⟨aQ r.out.symm,a.out▸F.out.tb.below⟩
  by_cases q3:6<n
  ·clear N;go_enter func67,ntmps67;go_upto_region 1 with fail;rw[HW.out,a.out];go_wp2_with fail;go_ret;exact⟨aQ r.out.symm,a.out▸F.out.tb.below⟩
  have q4:3<nd:=by
   rw[yw q1,yw q2,yw q3]at N;simpa using N
  clear N;go_enter func67,ntmps67;go_upto_region 1 with fail;rw[HW.out,a.out];go_wp2_with fail;go_ret;exact⟨aQ r.out.symm,a.out▸F.out.tb.below⟩
 have HL:Hid (ea ts t=if aw ts t=true then(if dy t.cols=true then dz (t.cols.map (leads ts))else 4)else 3):=aa (by unfold ea;rw[zq N]);rw[G]at N;simp only[wm,wh,not_or]at N;obtain⟨q1,q2,q3,q4⟩:=N;clear G;cases J:aw ts t
 ·have r:Hid (ea ts t=3):=aa (by rw[HL.out,J];rfl);have V:=pP F.out.tb.tab F.out.ts SM.1 J;clear J;go_enter func67,ntmps67;go_upto_region 1 with fail;rw[HW.out,a.out];go_wp2_with (go_at_call 104;refine V.mono ?_;rintro e w1⟨rfl,S⟩);go_ret;exact⟨aQ r.out.symm,a.out▸(F.out.on S).tb.below⟩
 have b3:Hid (ea ts t=if dy t.cols=true then dz (t.cols.map (leads ts))else 4):=aa (by rw[HL.out,J];rfl);have V:=pP F.out.tb.tab F.out.ts SM.1 J;clear J;go_enter func67,ntmps67;go_upto_region 1 with fail;rw[HW.out,a.out];go_wp2_with (go_at_call 104;refine V.mono ?_;rintro e w1⟨rfl,S⟩;have K1:=aa (F.out.on S);clear S);clear z0 z1 z2 z3 b2 q1 q2 q4 V F;go_loopg [5] (n+1) (fun gh jv w=>∃(j:Nat),jv=.int .i64 (j:Int)/\j<=n/\n+1<=j+gh/\(∀i,i<j->ot t.cols i=true)/\qz B W B t (.slice pc n cc) (.slice p nd a2) (.slice pv m g) ts w)
 case atStart=>exact⟨0,rfl,zh _,by omega,fun i Z=>by omega,K1.out⟩
 obtain⟨j,rfl,hj,hg,b4,z⟩:=hrel;have HI:=aa (ab b4 z);clear b4;obtain⟨u0,_,u2,u3,u4⟩:=z.tb.cells;by_cases d2:j<n
 ·have a4:j<t.cols.length:=(by rw[HN.1];exact d2);obtain⟨b,A,rfl,d3,_,c1,_⟩:=fu.col z.tb.tab.c a4;obtain⟨c,l⟩:=ag (t.cols[j]);have hG:=pL a4;rw[l]at c1 hG;have r:=aa hG;clear z l hG;by_cases H:c.kd=1
  ·have e1:(c.kd != 1)=false:=(by simp[H]);have H1:=aa H;clear H;go_wp2_with fail;go_roundg (n-j)
   case measure=>omega
   exact⟨j+1,by go_num,by omega,by omega,fun i Z=>by rcases(by omega:i<j∨i=j)with h|rfl;exact HI.1 i h;rw[r.out,xd (.inl H1.out)],HI.2⟩
  have e1:(c.kd != 1)=true:=(by simp[H]);by_cases L:c.kd=2
  ·have e2:(c.kd != 2)=false:=(by simp[L]);have H2:=aa L;clear H L;go_wp2_with fail;go_roundg (n-j)
   case measure=>omega
   exact⟨j+1,by go_num,by omega,by omega,fun i Z=>by rcases(by omega:i<j∨i=j)with h|rfl;exact HI.1 i h;rw[r.out,xd (.inr H2.out)],HI.2⟩
  have e2:(c.kd != 2)=true:=(by simp[L]);have H2:Hid (¬ (c.kd=1∨c.kd=2)):=aa (fun h=>h.elim H L);clear H L;go_wp2_with fail;go_ret;exact⟨aQ (by rw[b3.out];unfold dy;rw[bG j a4 (by rw[r.out,yw H2.out])];rfl),a.out▸HI.2.tb.below⟩
 have b5:Hid (ea ts t=dz (t.cols.map (leads ts))):=aa (by rw[b3.out];unfold dy;rw[bY (fun i Z=>HI.1 i (by have:=HN.1;omega))];rfl);go_upto_region 10 with fail;clear u0 u2 u3 u4 z;go_wp2_with fail;go_loopg [6] (n+1) (fun gh jv w=>∃(j:Nat),jv=.int .i64 (j:Int)/\j<=n/\n+1<=j+gh/\(∀i (h:i<t.cols.length),i<j->leads ts t.cols[i]=0)/\qz B W B t (.slice pc n cc) (.slice p nd a2) (.slice pv m g) ts w)
 case atStart=>exact⟨0,rfl,zh _,by omega,fun i _ Z=>by omega,HI.2⟩
 obtain⟨i,rfl,Z,d7,a0,z⟩:=hrel;have o:=aa (ab a0 z);clear a0;obtain⟨u0,u1,u2,u3,u4⟩:=z.tb.cells;by_cases b6:i<n
 ·have b7:i<t.cols.length:=(by rw[HN.1];exact b6);obtain⟨b,A,rfl,d3,_,c1,_,c3⟩:=fu.col z.tb.tab.c b7;obtain⟨c,l⟩:=ag (t.cols[i]);rw[l]at c1 c3;have d8:(i:Int)<(n:Int):=by omega
  have b8:leads ts c=0->∀x (h:x<t.cols.length),x<i+1->leads ts t.cols[x]=0:=fun h0 x hx d9=>by
   by_cases e:x=i
   ·subst e;rw[l];exact h0
   exact o.1 x hx (by omega)
  have P:leads ts c≠0->ea ts t=leads ts c:=fun h0=>by
   have I:i<(t.cols.map (leads ts)).length:=by rw[yh];exact b7
   have:=fQ (t.cols.map (leads ts)) i I (by rw[xa,l];exact h0) (fun x hx=>by rw[xa];exact o.1 x (by omega) hx)
   rw[b5.out,this,xa,l]
  have b9:=aa b8;have a5:=aa P;clear b8 P;cases M:it c.tgt e0
  rotate_left
  ·have he:c.tgt.toList.isEmpty=true:=(by rw[dC];exact M);have a6:=aa (b9.out (by unfold leads;rw[M];rfl));clear z l M;go_wp2_with fail;go_roundg (n-i)
   case measure=>omega
   exact⟨i+1,by go_num,by omega,by omega,a6.out,o.2⟩
  have he:c.tgt.toList.isEmpty=false:=(by rw[dC];exact M);have Q:=cJ (x:=c.tgt) z.ts;have d4:=Jo SM.2 c M;clear l M;rcases d4 with ⟨H,L⟩ | ⟨k,hk,H,L⟩
  ·rw[H]at Q;have r:Hid (ea ts t=3):=aa (by rw[a5.out (by rw[L];decide),L]);clear z H L;go_wp2_with (go_at_call 36;refine Q.mono ?_;rintro e w2⟨rfl,c0⟩;subst w2);go_ret;exact⟨aQ r.out.symm,a.out▸o.2.tb.below⟩
  rw[H]at Q;obtain⟨s,u,e3,e4,rfl,e5,k0,k1,k2,k3,E⟩:=iu.tab z.ts hk;have e6:k<m:=(by rw[<-HN.2.2];exact hk);obtain⟨O,X⟩:=ag (ts[k]);rw[X]at k0 k2 E;simp only[X]at L;obtain⟨pk,ck,rfl,_,_⟩:=E.c.slice;obtain⟨c4,c5,rfl,_,_⟩:=E.d.slice;rcases L with ⟨h3,h4⟩ | ⟨h3,q,hq,h5,h6⟩
  ·have d5:O.key.toList.isEmpty=true:=(by rw[dC];exact h3);have r:Hid (ea ts t=9):=aa (by rw[a5.out (by rw[h4];decide),h4]);clear z H h3 h4 E X hk;go_wp2_with (go_at_call 36;refine Q.mono ?_;rintro e w2⟨rfl,c0⟩;subst w2);go_ret;exact⟨aQ r.out.symm,a.out▸o.2.tb.below⟩
  have d5:O.key.toList.isEmpty=false:=(by rw[dC];exact h3);obtain⟨kb,ko,rfl,e7,_,g1,_,_⟩:=fu.col E.c hq;have Y:=(fun(w:World) (S:Below wr.heap.size wr w)=>bU (x:=O.key) (E.later S));rw[h5]at Y;obtain⟨lk,a7⟩:=ag O.cols.length;obtain⟨c6,a1⟩:=ag O.deps.length;obtain⟨kq,a8⟩:=ag (O.cols[q]);rw[a8]at g1;simp only[a8]at h6;rw[a7]at hq;simp only[a7,a1]at Y k1 k3;have c7:=aa Y;clear Y;have e8:(q:Int)<(lk:Int):=(by omega);have e9:(k:Int)<(m:Int):=(by omega);clear z H h3 h5 E X hk a8 a7 a1 hq;go_upto_region 19 with (go_at_call 36;(with_reducible refine Q.mono ?_);rintro e w2⟨rfl,c0⟩;subst w2);by_cases R:kq.kd=c.kd
  ·have a6:=aa (b9.out (by rw[h6,zv R]));rw[R]at g1;clear h6 R;refine Par.ae 25 [.slice (some ⟨s,u,none⟩) m g,.int .i64 k,.pointer (some ⟨s,u+k*4,none⟩),.pointer (some ⟨s,u+k*4+1,none⟩),.slice (some ⟨kb,ko,none⟩) lk ck,.slice (some ⟨s,u,none⟩) m g,.int .i64 k,.pointer (some ⟨s,u+k*4,none⟩),.agg #[.string O.nm,.slice (some ⟨kb,ko,none⟩) lk ck,.string O.key,.slice c4 c6 c5],.slice (some ⟨s,u,none⟩) m g,.int .i64 k,.pointer (some ⟨s,u+k*4,none⟩),.pointer (some ⟨s,u+k*4+2,none⟩),.string O.key,.int .i64 q,.pointer (some ⟨kb,ko+q*4,none⟩),.pointer (some ⟨kb,ko+q*4+1,none⟩),.int .i64 c.kd,.pointer (some ⟨B,1,none⟩),.slice (some ⟨b,A,none⟩) n cc,.int .i64 i,.pointer (some ⟨b,A+i*4,none⟩),.pointer (some ⟨b,A+i*4+1,none⟩),.int .i64 c.kd,.bool false] (fun w=>Below wr.heap.size wr w) ?A1 ?hm1 ?hB1 ?hA1 (aF wr) ?hop1 ?hT1
   case hm1=>kernel_rfl
   case hB1=>kernel_rfl
   case hA1 =>
    simp only[Par.am,Par.ai,Act.put,cy,db,bt,cp,dc,da,bu,eg,ed];rfl
   case hop1 =>
    simp only[ce,ze,Par.ah,yu];and_intros<;>intro w' f<;>have HR:=aa f
    rotate_left 4;have y:=aM f k1;rotate_left 4;have y0:=aM f k0;have y1:=aM f k1;have y2:=aM f k2;have y3:=aM f k3;rotate_left 5;have y:=aM f k2;rotate_left
    ·clear f;simp only[Par.Gives];go_simp;exact(c7.out w' HR.out).mono (fun e d6⟨he,S⟩=>⟨he,aB HR.out S⟩)
    rotate_left 2;have y:=aM f g1;rotate_left 2;have y:=aM f u2;rotate_left 4;have y:=aM f c1;rotate_left 2
    all_goals(clear f;simp only[Par.Gives];go_simp;all_goals exact HR.out)
   intro w' f;simp only[cw,yq];go_wp2_with fail;go_roundg (n-i)
   case measure=>omega
   exact⟨i+1,by go_num,by omega,by omega,a6.out,o.2.on f⟩
  have r:Hid (ea ts t=4):=aa (by rw[a5.out (by rw[h6,zq R];decide),h6,zq R]);clear h6;refine Par.ae 25 [.slice (some ⟨s,u,none⟩) m g,.int .i64 k,.pointer (some ⟨s,u+k*4,none⟩),.pointer (some ⟨s,u+k*4+1,none⟩),.slice (some ⟨kb,ko,none⟩) lk ck,.slice (some ⟨s,u,none⟩) m g,.int .i64 k,.pointer (some ⟨s,u+k*4,none⟩),.agg #[.string O.nm,.slice (some ⟨kb,ko,none⟩) lk ck,.string O.key,.slice c4 c6 c5],.slice (some ⟨s,u,none⟩) m g,.int .i64 k,.pointer (some ⟨s,u+k*4,none⟩),.pointer (some ⟨s,u+k*4+2,none⟩),.string O.key,.int .i64 q,.pointer (some ⟨kb,ko+q*4,none⟩),.pointer (some ⟨kb,ko+q*4+1,none⟩),.int .i64 kq.kd,.pointer (some ⟨B,1,none⟩),.slice (some ⟨b,A,none⟩) n cc,.int .i64 i,.pointer (some ⟨b,A+i*4,none⟩),.pointer (some ⟨b,A+i*4+1,none⟩),.int .i64 c.kd,.bool true] (fun w=>Below wr.heap.size wr w) ?A2 ?hm2 ?hB2 ?hA2 (aF wr) ?hop2 ?hT2
  case hm2=>kernel_rfl
  case hB2=>kernel_rfl
  case hA2 =>
   simp only[Par.am,Par.ai,Act.put,cy,db,bt,cp,dc,da,bu,eg,ed];rfl
  case hop2 =>
   simp only[ce,ze,Par.ah,yu];and_intros<;>intro w' f<;>have HR:=aa f
   rotate_left 4;have y:=aM f k1;rotate_left 4;have y0:=aM f k0;have y1:=aM f k1;have y2:=aM f k2;have y3:=aM f k3;rotate_left 5;have y:=aM f k2;rotate_left
   ·clear f;simp only[Par.Gives];go_simp;exact(c7.out w' HR.out).mono (fun e d6⟨he,S⟩=>⟨he,aB HR.out S⟩)
   rotate_left 2;have y:=aM f g1;rotate_left 2;have y:=aM f u2;rotate_left 4;have y:=aM f c1;rotate_left 2
   all_goals(clear f;simp only[Par.Gives];go_simp;all_goals exact HR.out)
  intro w' f;simp only[cw,yq];go_wp2_with fail;go_ret;exact⟨aQ r.out.symm,a.out▸(o.2.on f).tb.below⟩
 go_wp2_with fail;go_ret;exact⟨aQ (by rw[b5.out];exact(eK _ (fun x hx=>by rw[xa];rw[yh]at hx;exact o.1 x hx (by have:=HN.1;omega))).symm),a.out▸o.2.tb.below⟩
section
variable {S:Nat}{W w w':World}{t:T}{cv dv:Value}{j:Nat}
end
def BL(W:World)(v:Value)(n k:Nat)(xs:List Value):Prop:=xs.length=n*k/\∃p cap,v=.slice p n cap/\n<=cap/\cap<=maxLen/\(0<n->∃b off,p=some ⟨b,off,none⟩/\b<W.heap.size/\∀j u,xs[j]?=some u->W.cell? ⟨b,off+j,none⟩=some u)
def J9(W:World)(v:Value)(l:List C):Prop:=BL W v l.length 4 (ba l)
def JY(W:World)(v:Value)(l:List ByteArray):Prop:=BL W v l.length 1 (cellsS l)
def F'(W:World)(v:Value)(ds:List D):Prop:=∃ps:List Value,ps.length=ds.length/\BL W v ds.length 2 (cellsD ps ds)/\∀j (h:j<ps.length) (h':j<ds.length),JY W ps[j] ds[j].left
def InT(W:World)(cv dv:Value)(t:T):Prop:=J9 W cv t.cols/\F' W dv t.deps
def IH(W:World)(v:Value)(ts:List T):Prop:=∃xs,BL W v ts.length 4 xs/\∀j (h:j<ts.length),∃cv dv,xs[j*4]?=some (.string ts[j].nm)/\xs[j*4+1]?=some cv/\xs[j*4+2]?=some (.string ts[j].key)/\xs[j*4+3]?=some dv/\InT W cv dv ts[j]
def Br(m:Nat)(s:ByteArray):ByteArray:=if m<s.size then s.extract 0 m else s
def Dh(l:List ByteArray):List ByteArray:=(l.map (Br 20)).take 6
structure TI (S TB:Nat) (W:World) (t:T) (cv dv:Value) (nm key:ByteArray) (cs:List C) (ds:List D) (cu du:Value) (ps:List Value) (w:World):Prop where
 src:w.heap[S]?=some (ax t.nm cv t.key dv)
 res:w.heap[S+1]?=some (ax e0 (.slice none 0 0) e0 (.slice none 0 0))
 box:w.heap[TB]?=some (ax nm cu key du)
 c:ac w (TB+1) 95 4 cu cs.length (ba cs)
 d:jz w (TB+1) du ds ps
 below:Below S W w
 hT:S+2<=TB
section
variable {S TB:Nat}{W w w':World}{t:T}{cv dv:Value}{nm key:ByteArray}{cs:List C}{ds:List D}{cu du:Value}{ps:List Value}
end
structure TR (B:Nat) (us:List T) (v:Value) (xs:List Value) (w:World):Prop where
 row:ac w B 77 4 v us.length xs
 tabs:jy w xs us
 sz:B<=w.heap.size
section
variable {B:Nat}{w w':World}{us:List T}{v:Value}{xs:List Value}
end
