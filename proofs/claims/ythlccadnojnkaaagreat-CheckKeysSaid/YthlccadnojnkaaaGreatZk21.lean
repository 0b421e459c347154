import Derived.Test.YthlccadnojnkaaaGreatZk20
set_option maxHeartbeats 4000000
set_option maxRecDepth 100000
namespace Go.Proofs.YthlccadnojnkaaaGreat
open Go Go.RowKit Go.Proofs Co Co.S
theorem gE (l:List C) (x:ByteArray):ixC l x=-1∨∃ (j:Nat) (_:j<l.length),ixC l x=(j:Int):=by
 unfold ixC;cases h:l.findIdx? (isC x) with
 | none=>exact .inl rfl
 | some j =>
  obtain⟨h1,_⟩:=List.findIdx?_eq_some_iff_getElem.1 h;exact .inr ⟨j,h1,rfl⟩
section
variable {W W':World} {tb next:Nat} {t:T} {A:List R1} {lab:Nat->Nat}
theorem aBk (h:Tb W tb t next A lab) {x:Int} (hx:F64 x) (hno:∀ a∈A,a.1≠x):Calls Tryz.prog 39 #[.pointer (some ⟨tb,0,none⟩),.int .i64 x] W fun e w'=>e=.returned (.bool false)/\w'=W:=by
 obtain⟨i,h1,h2⟩:=h;have ha:=fB h1 hx;rw[h2.no x hno] at ha;clear h1 h2 hno hx;go_enter Tryz.func39,Tryz.ntmps39;go_wp2_with (go_at_call 72;(with_reducible refine ha.mono ?_);rintro e w2 ⟨rfl,hw⟩;subst w2);go_ret;exact⟨rfl,rfl⟩
theorem mV (h:Tb W tb t next A lab) {a:R1} (ha:a∈A) (hn:next<=800) (hc:t.cols.length<=1000) :
  Calls Tryz.prog 39 #[.pointer (some ⟨tb,0,none⟩),.int .i64 a.1] W fun e w'=>e=.returned (.bool true)/\∃ lab',Tb w' tb t next (without A a.1) lab'/\Ext W lab lab'/\Tn (fun b=>lab b≠0) W w':=by
 obtain⟨i,h1,h2⟩:=h;obtain⟨p,hp,hpl,_⟩:=h2.pl a ha;have hrg:=h2.rng a ha;have hx:F64 a.1:=(by constructor <;> omega);have hat:=fB h1 hx;rw[hp] at hat;simp only[Option.getD_some,Option.isSome_some] at hat;obtain⟨pc,cc,hcv,hc1,hc2⟩:=h1.cols.isslice;obtain⟨n,hnn⟩:∃ n,t.cols.length=n:=⟨_,rfl⟩;have c4:=h1.cells.2.2.2.2.1;have zl:=h1.tlt;rw[hcv,hnn] at c4;rw[hnn] at hc;have hfew:=h2.few;have hlens:=h2.lens;have HI:=qAq (qBq h1 (qBq h2 (qBq hp (qBq ha (qBq hx hrg)))));have HN:=qAq (qBq hnn (qBq hcv hpl));have HL:=qAq (qBq hfew hlens);unfold maxLen at hc2;obtain⟨x,hax⟩:∃ x,a.1=x:=⟨_,rfl⟩;rw[hax] at hat HI ⊢;have HA:=qAq hax;have hp8:p<=800:=(by omega);clear h1 h2 hp ha hx hrg hnn hcv hpl hfew hlens hax;go_enter Tryz.func39,Tryz.ntmps39;go_wp2_with (go_at_call 72;(with_reducible refine hat.mono ?_);rintro e w2 ⟨rfl,hw⟩;subst w2);go_loopg [22] (n+1) (fun gh jv w=>∃ (j:Nat),jv=.int .i64 (j:Int)/\j<=n/\n+1<=j+gh/\DelI W tb t next i lab p j w)
 case atStart=>exact⟨0,rfl,Nat.zero_le _,by omega,i.cl,lab,HI.out.1,fun k _=>by rw[if_neg (Nat.not_lt_zero k)],Ext.refl _ _,Tn.refl _ _⟩
 obtain⟨j,rfl,hj,hg,hD⟩:=hrel;by_cases hlt:j<n
 ·have hjc:j<t.cols.length:=(by rw[HN.out.1];exact hlt);have hlj:=HL.out.2 j hjc;have hcall:=hD.col hjc (by have:=HL.out.1;omega) (by rw[hlj];exact HN.out.2.2)
  obtain⟨gc,cc',hcs,_,_⟩:∃ gc cc',Value.slice pc n cc=.slice (some ⟨gc,0,none⟩) n cc'/\n<=cc'/\cc'<=maxLen:=by
   obtain⟨g',c',e,e1,e2,k1,k2⟩:=HI.out.1.ptr hjc;rw[HN.out.2.1,HN.out.1] at e;exact⟨g',c',e,by rw[<- HN.out.1];exact e1,e2⟩
  cases hcs;obtain⟨gl,gp⟩:=hD.ptr (n:=n) (c:=cc) (by rw[HN.out.2.1,HN.out.1]) hjc;obtain⟨cb,hcb⟩:∃ cb,i.cb j=cb:=⟨_,rfl⟩;rw[hcb] at gp hcall;have hji:(j:Int)<(n:Int):=(by omega);clear hD hlj hcb;go_wp2_with (go_at_call 73;(with_reducible refine hcall.mono ?_);rintro e w4 ⟨rfl,hP4⟩;have H4:=qAq hP4;clear hP4 hcall);go_roundg (n-j)
  case measure=>omega
  exact⟨j+1,by go_num,by omega,by omega,H4.out⟩
 obtain rfl:j=n:=(by omega);obtain⟨cl,lab2,d1,d2,d3,d4⟩:=hD
 obtain⟨r,hr⟩:∃ r,i.pv=.map r:=by
  rcases d1.place with ⟨e,_⟩ | ⟨b,e,_⟩
  ·exact⟨_,e⟩
  exact⟨_,e⟩
 obtain⟨w1,hrun,e1,e2⟩:=d1.setdel HI.out.2.2.2.2.1 HI.out.2.2.1 0;have c5:=d1.cells.2.2.2.2.2.1;simp only at c5 hrun;rw[hr] at c5 hrun;have zr:=d1.tlt;have z1:=e1.tlt;have c6:=e1.cells.2.2.2.2.2.2.1;simp only at c6;obtain⟨g,cap,w2,hrun1,y1,y2,⟨y3,y4⟩,lab3,e3,e4,e5⟩:=e1.addfree p (by show i.free.length<=10000;have:=HL.out.1;omega);simp only at hrun1;obtain⟨pf,cf,hfv,_,_⟩:=e1.free.isslice;simp only at hfv;rw[hfv] at c6 hrun1;obtain⟨nf,hnf⟩:∃ nf,i.free.length=nf:=⟨_,rfl⟩;simp only[hnf] at e3 e5;rw[hnf] at c6 hrun1;have HD:=qAq (qBq d2 (qBq (d3.trans d4.size (Ext.refl _ _)) (d4.trans e2 (fun _ _ h=>h) (eE d3))));obtain⟨w3,hw3⟩:∃ w3,w2.setCell ⟨tb,6,none⟩ (.slice (some ⟨g,0,none⟩) (nf+1) cap)=w3:=⟨_,rfl⟩;rw[hw3] at e3 e5;have HT:=qAq (qBq (HD.out.2.1.trans (HD.out.2.2.size) e4) (HD.out.2.2.trans e5 (fun _ _ h=>h) (eE HD.out.2.1)));have z3:=e3.tlt;have c8:=e3.cells.2.2.2.2.2.2.2.2.1;simp only at c8;obtain⟨g',cap',w4,hrun2,v1,v2,⟨v3,v4⟩,lab4,e6,e7,e8⟩:=e3.addlate x (by show i.late.length<=10000;have:=HI.out.2.1.lat;omega);simp only at hrun2;obtain⟨pl,cl',hlv,_,_⟩:=e3.late.isslice;simp only at hlv;rw[hlv] at c8 hrun2;obtain⟨nl,hnl⟩:∃ nl,i.late.length=nl:=⟨_,rfl⟩;simp only[hnl] at e6 e8;rw[hnl] at c8 hrun2;obtain⟨w5,hw5⟩:∃ w5,w4.setCell ⟨tb,8,none⟩ (.slice (some ⟨g',0,none⟩) (nl+1) cap')=w5:=⟨_,rfl⟩;rw[hw5] at e6 e8;have HU:=qAq (qBq (HT.out.1.trans HT.out.2.size e7) (HT.out.2.trans e8 (fun _ _ h=>h) (eE HT.out.1)));have z5:=e6.tlt;have c88:=e6.cells.2.2.2.2.2.2.2.2.1;simp only at c88;have hlat:=HI.out.2.1.lat;rw[hnl] at hlat;have HE:=qAq (qBq e6 (qBq hnl hnf));have HW3:=qAq hw3;have HW5:=qAq hw5;clear d1 d2 d3 d4 e1 e2 e3 e4 e5 e6 e7 e8 hr hfv hlv hnl hnf hw3 hw5;go_upto_region 10 with (at_delete;refine xA rfl (.tmp 34) (.tmp 35) 114 3 rfl rfl rfl hrun ?_);go_upto_region 11 with (at_builtin;refine aK rfl (.tmp 40) (.tmp 42) 45 rfl rfl rfl hrun1 ?_);rw[HW3.out];clear hrun hrun1 y1 y2 y4 c5 c6;go_upto_region 12 with (at_builtin;refine aK rfl (.tmp 50) (.tmp 52) 45 rfl rfl rfl hrun2 ?_);rw[HW5.out];clear hrun2 v1 v2 v4 c8;by_cases h64:nl+1=64
 ·obtain rfl:nl=63:=(by omega);have hgone:=jW HE.out.1 (by show (i.late++[x]).length<=100;rw[List.length_append,HE.out.2.1];simp);go_wp2_with (go_at_call 74;(with_reducible refine hgone.mono ?_);rintro e w6 ⟨p6,n6,c6',rfl,hv6,hb6⟩;have h6:=HE.out.1.later hb6;have x7:=h6.cells.2.2.2.2.2.2.2.1;have x8:=h6.cells.2.2.2.2.2.2.2.2.1;have f7:=h6.fz 7;have f8:=h6.fz 8;have l6:=h6.tlt;have H6:=qAq (qBq h6 (qBq hv6 hb6));clear h6 hv6 hb6);obtain⟨s1,s2⟩:=H6.out.1.setgone H6.out.2.1;have HS:=qAq (qBq s1 s2);clear s1 s2;go_ret;refine⟨rfl,lab4,⟨_,HS.out.1,?_⟩,HU.out.1,(HU.out.2.trans (Tn.of_below (S:=fun _=>False) H6.out.2.2) (fun _ _ h=>h) (fun _ _ h=>h.elim)).trans HS.out.2 (fun _ _ h=>h) (eE HU.out.1)⟩;rw[<- HA.out];refine HI.out.2.1.del HI.out.2.2.2.1 (by rw[HA.out];exact HI.out.2.2.1) rfl rfl rfl (fun y=>?_) (by show ([]:List Int).length<=63;decide) (fun k hk=>?_)
  ·show ((i.G y || ofP (i.late++[a.1]) y)=true∨y∈([]:List Int))↔_
   have hin:∀ z,z∈i.late->inB z=true:=fun z hz=>by
    obtain⟨z1,z2,_⟩:=(HI.out.2.1.gone z).1 (.inr hz)
    have:=HI.out.2.1.lim
    unfold inB
    simp;omega
   have hinx:inB a.1=true:=by
    have:=HI.out.2.2.2.2.2
    rw[<- HA.out] at this;unfold inB
    simp;omega
   unfold ofP;simp only[List.not_mem_nil,or_false,Bool.or_eq_true,Bool.and_eq_true,decide_eq_true_eq,List.mem_append,List.mem_singleton];constructor
   ·rintro (h1|⟨h1|h1,h2⟩)
    ·exact .inl (.inl h1)
    ·exact .inl (.inr h1)
    exact .inr h1
   rintro ((h1|h1) | h1)
   ·exact .inl h1
   ·exact .inr ⟨.inl h1,hin y h1⟩
   exact .inr ⟨.inr h1,by rw[h1];exact hinx⟩
  show cl k=_;rw[HD.out.1 k (by rw[HN.out.1];rw[HN.out.1] at hk;exact hk),if_pos (by rw[HN.out.1] at hk;exact hk)]
 have hne:((nl:Int)+1==64)=false:=(by simp;omega);go_wp2_with fail;go_ret;refine⟨rfl,lab4,⟨_,HE.out.1,?_⟩,HU.out.1,HU.out.2⟩;rw[<- HA.out];refine HI.out.2.1.del HI.out.2.2.2.1 (by rw[HA.out];exact HI.out.2.2.1) rfl rfl rfl (fun y=>?_) ?_ (fun k hk=>?_)
 ·show (i.G y=true∨y∈i.late++[a.1])↔_;rw[List.mem_append,List.mem_singleton,or_assoc]
 ·show (i.late++[a.1]).length<=63;rw[List.length_append,HE.out.2.1];simp;omega
 show cl k=_;rw[HD.out.1 k (by rw[HN.out.1];rw[HN.out.1] at hk;exact hk),if_pos (by rw[HN.out.1] at hk;exact hk)]
def setE (t:T) (A:List R1) (x:Int) (y:ByteArray) (v:T3):Int:=if A.any (fun a=>decide (a.1=x)) then (if 0<=ixC t.cols y then (if inC ((t.cols[(ixC t.cols y).toNat]?).getD ⟨e0,0,false,e0⟩).kd v then 0 else 4) else 3) else 6
theorem lS {A:List R1} {x:Int}:A.any (fun a=>decide (a.1=x))=true↔∃ a∈A,a.1=x:=by simp
theorem aBl (h:Tb W tb t next A lab) {x:Int} (hx:F64 x) (y:ByteArray) (k n1:Int) (s:ByteArray) (hs:s.size<=maxLen) (hno:setE t A x y (k,n1,s)≠0) :
  Calls Tryz.prog 41 #[.pointer (some ⟨tb,0,none⟩),.int .i64 x,.string y,.agg #[.int .i64 (k),.int .i64 (n1),.string (s)]] W fun e w'=>e=.returned (.int .i64 (setE t A x y (k,n1,s)))/\Below W.heap.size W w':=by
 obtain⟨i,h1,h2⟩:=h;have hb:=aD W (.cells #[.int .i64 k,.int .i64 n1,.string s] 32);have hk:=heap_alloc_new W (.cells #[.int .i64 k,.int .i64 n1,.string s] 32);have h3:=h1.later hb;have hat:=fB h3 hx;have HB:=qAq (qBq hb hk);unfold setE at hno ⊢;cases hf:i.f x with
 | none =>
  have hn:¬ A.any (fun a=>decide (a.1=x))=true:=fun e=>by
   rw[lS,<- h2.is,hf] at e;cases e
  rw[if_neg hn];rw[hf] at hat;clear h1 h2 h3 hb hk hno hn hf;go_enter Tryz.func41,Tryz.ntmps41;go_wp2_with (go_at_call 72;(with_reducible refine hat.mono ?_);rintro e w2 ⟨rfl,hw⟩;subst w2);go_ret;exact⟨rfl,HB.out.1⟩
 | some p =>
  have hn:A.any (fun a=>decide (a.1=x))=true:=(by rw[lS,<- h2.is,hf];rfl);rw[if_pos hn] at hno ⊢;rw[hf] at hat;simp only[Option.getD_some,Option.isSome_some] at hat;have hcol:=fO h3 y;by_cases hc:0<=ixC t.cols y
  ·rw[if_pos hc] at hno ⊢;rcases gE t.cols y with e|⟨j,hj,e⟩
   ·rw[e] at hc;omega
   ·rw[e] at hno hcol ⊢;have hd:decide (0<=(j:Int))=true:=(by simp);rw[hd] at hcol;rw[Int.toNat_natCast,List.getElem?_eq_getElem hj] at hno ⊢;simp only[Option.getD_some] at hno ⊢
    have hin:inC t.cols[j].kd (k,n1,s)=false:=by
     cases hi:inC t.cols[j].kd (k,n1,s)
     ·rfl
     ·rw[if_pos hi] at hno;exact absurd rfl hno
    rw[if_neg (by rw[hin];exact Bool.false_ne_true)]
    have HX:Hid (∀ w,Below (W.alloc (.cells #[.int .i64 k,.int .i64 n1,.string s] 32)).heap.size (W.alloc (.cells #[.int .i64 k,.int .i64 n1,.string s] 32)) w->w.heap[W.heap.size]?=some (.cells #[.int .i64 k,.int .i64 n1,.string s] 32)/\Calls Tryz.prog 77 #[.pointer (some ⟨tb,0,none⟩),.int .i64 (j:Int),.agg #[.int .i64 (k),.int .i64 (n1),.string (s)]] w fun e w'=>e=.returned (.bool false)/\Below w.heap.size w w'):=qAq (fun w hw=>by
     have:=gZ (h3.later hw) j hj k n1 s hs
     rw[hin] at this;exact⟨aE hw hk,this⟩)
    clear h1 h2 h3 hb hk hno hn hf hd hin hc e;go_enter Tryz.func41,Tryz.ntmps41
    go_wp2_with (first
     | (go_at_call 72;(with_reducible refine hat.mono ?_);rintro e w2 ⟨rfl,hw⟩;subst w2)
     | (go_at_call 76;(with_reducible refine hcol.mono ?_);rintro e w3 ⟨rfl,hb3⟩;obtain⟨hx3,htk⟩:=HX.out w3 hb3;have z0:=aA hx3 0;have z1:=aA hx3 1;have z2:=aA hx3 2;have zl:=aC hx3;have H3:=qAq hb3;clear hx3 hb3 hcol)
     | (go_at_call 77;(with_reducible refine htk.mono ?_);rintro e w4 ⟨rfl,hb4⟩;have H4:=qAq hb4;clear hb4 htk))
    go_ret;exact⟨rfl,aB (aB HB.out.1 H3.out) H4.out⟩
  ·rw[if_neg hc];have hd:decide (0<=ixC t.cols y)=false:=decide_eq_false hc;rw[hd] at hcol;generalize ixC t.cols y=z at hcol;clear h1 h2 h3 hb hk hno hn hf hd hc;go_enter Tryz.func41,Tryz.ntmps41
   go_wp2_with (first
    | (go_at_call 72;(with_reducible refine hat.mono ?_);rintro e w2 ⟨rfl,hw⟩;subst w2)
    | (go_at_call 76;(with_reducible refine hcol.mono ?_);rintro e w3 ⟨rfl,hb3⟩;have H3:=qAq hb3;clear hb3 hcol))
   go_ret;exact⟨rfl,aB HB.out.1 H3.out⟩
end
section
variable {W W':World} {tb next:Nat} {t:T} {A:List R1} {lab:Nat->Nat}
theorem mW (h:Tb W tb t next A lab) {a:R1} (ha:a∈A) (hn:next<=800) {y:ByteArray} {j:Nat} (hj:j<t.cols.length) (hy:ixC t.cols y=(j:Int)) (k n1:Int) (s:ByteArray) (hs:s.size<=maxLen) (hin:inC t.cols[j].kd (k,n1,s)=true) :
  Calls Tryz.prog 41 #[.pointer (some ⟨tb,0,none⟩),.int .i64 a.1,.string y,.agg #[.int .i64 (k),.int .i64 (n1),.string (s)]] W fun e w'=>e=.returned (.int .i64 0)/\∃ lab',Tb w' tb t next (setA A a.1 j (k,n1,s)) lab'/\Ext W lab lab'/\Tn (fun b=>lab b≠0) W w':=by
 obtain⟨i,h1,h2⟩:=h;obtain⟨p,hp,hpl,_⟩:=h2.pl a ha;have hrg:=h2.rng a ha;have hx:F64 a.1:=(by have:=h2.lim;constructor <;> omega);have hb:=aD W (.cells #[.int .i64 k,.int .i64 n1,.string s] 32);have hk:=heap_alloc_new W (.cells #[.int .i64 k,.int .i64 n1,.string s] 32);have h3:=h1.later hb;have hat:=fB h3 hx;rw[hp] at hat;simp only[Option.getD_some,Option.isSome_some] at hat;have hcol:=fO h3 y;rw[hy] at hcol;have hd:decide (0<=(j:Int))=true:=(by simp);rw[hd] at hcol;obtain⟨g,c,hcv,n1',n2',_⟩:=h1.ptr hj;obtain⟨n,hnn⟩:∃ n,t.cols.length=n:=⟨_,rfl⟩;obtain⟨w1,hw1⟩:∃ w1,W.alloc (.cells #[.int .i64 k,.int .i64 n1,.string s] 32)=w1:=⟨_,rfl⟩;obtain⟨B,hBB⟩:∃ B,W.heap.size=B:=⟨_,rfl⟩;rw[hw1] at h3 hk hb hat hcol;rw[hBB] at hk;have hfew:=h2.few;obtain⟨x,hax⟩:∃ x,a.1=x:=⟨_,rfl⟩
 have HX:Hid (∀ w,Below w1.heap.size w1 w->w.heap[B]?=some (.cells #[.int .i64 k,.int .i64 n1,.string s] 32)/\w.cell? ⟨tb,4,none⟩=some (.slice (some ⟨g,0,none⟩) n c)/\w.cell? ⟨g,j,none⟩=some (Value.pointer (some ⟨i.cb j,0,none⟩))/\tb<w.heap.size/\g<w.heap.size /\
   (Calls Tryz.prog 77 #[.pointer (some ⟨tb,0,none⟩),.int .i64 (j:Int),.agg #[.int .i64 (k),.int .i64 (n1),.string (s)]] w fun e w'=>e=.returned (.bool true)/\Below w.heap.size w w') /\
   (Calls Tryz.prog 73 #[.pointer (some ⟨i.cb j,0,none⟩),.int .i64 (p:Int),.agg #[.int .i64 (k),.int .i64 (n1),.string (s)]] w fun e w'=>e=.returned (.bool true)/\∃ lab',Tb w' tb t next (setA A x j (k,n1,s)) lab'/\Ext W lab lab'/\Tn (fun b=>lab b≠0) W w')):=qAq (fun w hw=>by
  have h4:=h3.later hw;have hWw:=aB hb hw;obtain⟨g',c',e,_,_,k1,k2⟩:=h4.ptr hj;rw[hcv] at e;cases e;have htk:=gZ h4 j hj k n1 s hs;rw[hin] at htk;refine⟨aE hw hk,by rw[<- hnn,<- hcv];exact h4.cells.2.2.2.2.1,k2,h4.tlt,k1,htk,?_⟩;have hl:=h2.lens j hj;refine (qQ (h4.col j hj) (by omega) p (by omega) (k,n1,s) hs hin).mono ?_;rintro e w' ⟨rfl,q1,q2⟩;obtain⟨lab3,s1,s2,s3⟩:=h4.setcol hj q1 q2 (fun q hq=>.inl hq);refine⟨rfl,lab3,⟨_,s1,?_⟩,fun b hb2=>s2 b (Nat.lt_of_lt_of_le hb2 hWw.size),(Tn.of_below (S:=fun _=>False) hWw).trans s3 (fun _ _ h=>h.elim) (fun _ _ h=>h)⟩;rw[<- hax];refine h2.set ha hj hp rfl rfl rfl rfl rfl (fun k' hk'=>?_);show updF i.cl j _ k'=_;by_cases e:k'=j
  ·subst e;rw[bM,if_pos rfl]
  ·rw[bC _ _ e,if_neg e])
 rw[hax] at hat ⊢;have HB:=qAq (show Below W.heap.size W w1 from hb);have HW:=qAq (qBq hw1 hBB);rw[hnn] at n1' hj;have hji:(j:Int)<(n:Int):=(by omega);unfold maxLen at n2';generalize i.cb j=cb at HX;clear h1 h2 h3 hp hpl hrg hx hb hk hy hd hcv hnn hw1 hBB hfew hax hin hs;go_enter Tryz.func41,Tryz.ntmps41;go_upto_region 1 with fail;rw[HW.out.1,HW.out.2]
 go_upto_region 9 with (first
  | (go_at_call 72;(with_reducible refine hat.mono ?_);rintro e w2 ⟨rfl,hw⟩;subst w2)
  | (go_at_call 76;(with_reducible refine hcol.mono ?_);rintro e w3 ⟨rfl,hb3⟩;obtain⟨hx3,y4,yj,yt,yg,htk,_⟩:=HX.out w3 hb3;have z0:=aA hx3 0;have z1:=aA hx3 1;have z2:=aA hx3 2;have zl:=aC hx3;have H3:=qAq hb3;clear hx3 hb3 hcol)
  | (go_at_call 77;(with_reducible refine htk.mono ?_);rintro e w4 ⟨rfl,hb4⟩;have H4:=qAq (aB H3.out hb4);clear hb4 htk))
 obtain⟨hx4,y44,yj4,yt4,yg4,_,hset⟩:=HX.out w4.drew (aB H4.out (aF w4));have HC:=qAq hset;have q0:=aA hx4 0;have q1:=aA hx4 1;have q2:=aA hx4 2;have ql:=aC hx4;clear hset hx4 z0 z1 z2 zl y4 yj yt yg;refine Par.wp_region_par 9 [.pointer (some ⟨tb,0,none⟩),.pointer (some ⟨tb,0,none⟩),.pointer (some ⟨tb,4,none⟩),.slice (some ⟨g,0,none⟩) n c,.int .i64 (j:Int),.pointer (some ⟨g,j,none⟩),.pointer (some ⟨cb,0,none⟩),.int .i64 (p:Int),.agg #[.int .i64 (k),.int .i64 (n1),.string (s)]] (fun w=>w=w4.drew) ?A1 ?hm1 ?hB1 ?hA1 (rfl) ?hop1 ?hT1
 case hm1=>kernel_rfl
 case hB1=>kernel_rfl
 case hA1 =>
  simp only[Par.putA,Par.dstAt,Act.put,qDq,qEq,qFq,qLq,qGq,qHq,qIq,qJq,qKq];rfl
 case hop1 =>
  simp only[qMq,List.take_zero,Par.GiveAll,and_true];and_intros<;>intro w' hR
  ·have HR:=qAq hR;obtain rfl:=hR;simp only[Par.Gives];go_simp;all_goals exact HR.out
  ·have HR:=qAq hR;obtain rfl:=hR;simp only[Par.Gives];go_simp;all_goals exact HR.out
  ·have HR:=qAq hR;obtain rfl:=hR;simp only[Par.Gives];go_simp;all_goals exact HR.out
  ·have HR:=qAq hR;obtain rfl:=hR;simp only[Par.Gives];go_simp;all_goals exact HR.out
  ·have HR:=qAq hR;obtain rfl:=hR;simp only[Par.Gives];go_simp;all_goals exact HR.out
  ·have HR:=qAq hR;obtain rfl:=hR;simp only[Par.Gives];go_simp;all_goals exact HR.out
  ·have HR:=qAq hR;obtain rfl:=hR;simp only[Par.Gives];go_simp;all_goals exact HR.out
  ·have HR:=qAq hR;obtain rfl:=hR;simp only[Par.Gives];go_simp;all_goals exact HR.out
  have HR:=qAq hR;obtain rfl:=hR;simp only[Par.Gives];go_simp;all_goals exact HR.out
 intro w' hR;simp only[qNq,List.drop_zero];obtain rfl:=hR;have hset:=HC.out;clear q0 q1 q2 ql y44 yj4 yt4 yg4;go_wp2_with (go_at_call 73;(with_reducible refine hset.mono ?_);rintro e w5 ⟨rfl,hT⟩;have H5:=qAq hT;clear hT hset);go_ret;exact⟨rfl,H5.out⟩
theorem Tb.f64 {i:In} {n:Nat} (h2:Inv n next i A) {a:R1} (ha:a∈A):F64 a.1:=by have:=h2.rng a ha;have:=h2.lim;constructor <;> omega
theorem fC (h:Tb W tb t next A lab) {a:R1} (ha:a∈A) (hc:t.cols.length<=1000) (h0:0<t.cols.length) :
  Calls Tryz.prog 84 #[.pointer (some ⟨tb,0,none⟩),.int .i64 a.1] W fun e w'=>∃ g c,e=.returned (.tuple #[.slice (some ⟨g,0,none⟩) t.cols.length c,.bool true])/\W.heap.size<=g/\HRow w' W.heap.size 32 3 (.slice (some ⟨g,0,none⟩) t.cols.length c) t.cols.length (cells3 a.2)/\Below W.heap.size W w':=by
 obtain⟨i,h1,h2⟩:=h;obtain⟨p,hp,hpl,he⟩:=h2.pl a ha
 have:=aCJ h1 (Tb.f64 h2 ha) hp (fun k hk=>by rw[h2.lens k hk];exact hpl) hc h0
 rw[<- he] at this;exact this
theorem Tb.len (h:Tb W tb t next A lab):∀ a∈A,a.2.length=t.cols.length:=fun a ha=>by
 obtain⟨i,h1,h2⟩:=h;obtain⟨p,hp,hpl,he⟩:=h2.pl a ha;rw[he,cC]
theorem Tb.srt (h:Tb W tb t next A lab):A.Pairwise (fun a b=>a.1<b.1):=by
 obtain⟨i,h1,h2⟩:=h;exact h2.srt
theorem Tb.ok (h:Tb W tb t next A lab):∀ a∈A,∀ k (hk:k<t.cols.length) x,a.2[k]?=some x->inC t.cols[k].kd x=true:=fun a ha k hk x hx=>by
 obtain⟨i,h1,h2⟩:=h;obtain⟨p,hp,hpl,he⟩:=h2.pl a ha;rw[he,cH _ hk,List.getElem?_eq_getElem (by rw[h2.lens k hk];exact hpl)] at hx;cases hx;exact (h1.col k hk).ok _ (List.getElem_mem _)
theorem iC (h:Tb W tb t next A lab) {a:R1} (ha:a∈A) {y:ByteArray} {k:Nat} (hk:k<t.cols.length) (hy:ixC t.cols y=(k:Int)) {u:T3} (hu:a.2[k]?=some u) :
  Calls Tryz.prog 132 #[.pointer (some ⟨tb,0,none⟩),.int .i64 a.1,.string y] W fun e w'=>e=.returned (.tuple #[(Value.agg #[Value.int .i64 (u.1),Value.int .i64 (u.2.1),Value.string (u.2.2)]),.bool true])/\Below W.heap.size W w':=by
 obtain⟨i,h1,h2⟩:=h;obtain⟨p,hp,hpl,he⟩:=h2.pl a ha;have hlt:p<(i.cl k).length:=(by rw[h2.lens k hk];exact hpl);rw[he,cH _ hk,List.getElem?_eq_getElem hlt] at hu;exact aCK h1 (Tb.f64 h2 ha) hp hk hy hlt (by rw[List.getElem?_eq_getElem hlt];exact hu)
theorem aBm (h:Tb W tb t next A lab) {x:Int} (hx:F64 x) {y:ByteArray} (hno:(∀ a∈A,a.1≠x)∨ixC t.cols y=-1):Calls Tryz.prog 132 #[.pointer (some ⟨tb,0,none⟩),.int .i64 x,.string y] W fun e w'=>e=.returned (.tuple #[(Value.agg #[Value.int .i64 (0),Value.int .i64 (0),Value.string (⟨#[]⟩)]),.bool false])/\Below W.heap.size W w':=by
 obtain⟨i,h1,h2⟩:=h;exact aEZ h1 hx (hno.imp (h2.no x) id)
theorem qZ (h:Tb W tb t next A lab):Calls Tryz.prog 30 #[.pointer (some ⟨tb,0,none⟩)] W fun e w'=>e=.returned (.int .i64 (next:Int))/\w'=W:=by
 obtain⟨i,h1,h2⟩:=h;exact aBe h1
def idsP (A:List R1):Int->Bool:=fun x=>A.any fun a=>decide (a.1=x)
theorem tE {x:Int}:idsP A x=true↔∃ a∈A,a.1=x:=lS
theorem Vm.congr {w:World} {v:Value} {P Q:Int->Bool} (h:Vm w v P) (e:∀ x,P x=Q x):Vm w v Q:=by
 obtain⟨l,h1,h2,h3⟩:=h;exact⟨l,h1,h2,fun x=>by rw[<- e x];exact h3 x⟩
theorem fD (h:Tb W tb t next A lab):Calls Tryz.prog 52 #[.pointer (some ⟨tb,0,none⟩)] W (IsV (idsP A) W):=by
 obtain⟨i,h1,h2⟩:=h;refine (aBf h1 (by have:=h2.lat;omega)).mono ?_;rintro e w' ⟨p,n,c,he,hv,hb⟩;refine⟨p,n,c,he,hv.congr (fun x=>?_),hb⟩;have hlim:=h2.lim;rw[Bool.eq_iff_iff,tE];have hg:=h2.gone x;unfold notP goneP ofP;simp only[Bool.and_eq_true,decide_eq_true_eq,Bool.not_eq_true',Bool.or_eq_false_iff,Bool.and_eq_false_iff,decide_eq_false_iff_not];constructor
 ·rintro ⟨⟨a1,a2,a3⟩,b1,b2⟩;apply Classical.byContradiction;intro hno;rcases hg.2 ⟨a1,a2,fun a ha he=>hno ⟨a,ha,he⟩⟩ with g1|g1
  ·rw[b1] at g1;cases g1
  rcases b2 with b2|b2
  ·exact b2 g1
  unfold inB at b2;simp at b2;omega
 rintro ⟨a,ha,rfl⟩;obtain⟨r1,r2⟩:=h2.rng a ha;refine⟨⟨r1,r2,by omega⟩,?_,.inl (fun hl=>(hg.1 (.inr hl)).2.2 a ha rfl)⟩;cases hG:i.G a.1
 ·rfl
 exact absurd rfl ((hg.1 (.inl hG)).2.2 a ha)
theorem tF (h:Tb W tb t next A lab) {x:ByteArray} {k:Nat} (hk:k<t.cols.length) (hx:ixC t.cols x=(k:Int)) (m:List (K 12)) (hm:m.Nodup) (hs:∀ s,s∈m↔∃ a∈A,∃ y,a.2[k]?=some y/\y.1=2/\wd y.2.2=s):Calls Tryz.prog 82 #[.pointer (some ⟨tb,0,none⟩),.string x] W fun e w'=>e=.returned (.int .i64 (m.length:Int))/\Below W.heap.size W w':=by
 obtain⟨i,h1,h2⟩:=h;exact xD h1 hk hx m hm (fun s=>(hs s).trans (h2.texts hk s).symm)
end
theorem OwnT.mono {w:World} {b b':Nat} {cv dv:Value} {t:T} {ps:List Value} (h:OwnT w b cv dv t ps) (hb:b'<=b):OwnT w b' cv dv t ps:=⟨HRow.mono h.c hb,h.n,HRow.mono h.d hb,fun j x y=>HRow.mono (h.l j x y) hb⟩
def IsT (t:T) (W:World) (e:Ending) (w':World):Prop:=∃ p1 c1 p2 c2 ps,e=.returned (.agg #[.string t.nm,.slice p1 t.cols.length c1,.string t.key,.slice p2 t.deps.length c2])/\OwnT w' W.heap.size (.slice p1 t.cols.length c1) (.slice p2 t.deps.length c2) t ps/\Below W.heap.size W w'
section
variable {W W':World} {tb next:Nat} {t:T} {i:In} {A:List R1} {lab:Nat->Nat}
theorem aBn (h:TbM W tb t next i lab) (hf:Few t):Calls Tryz.prog 159 #[.pointer (some ⟨tb,0,none⟩)] W (IsT t W):=by
 have hb:=aD W (boxT e0 (.slice none 0 0) e0 (.slice none 0 0));have hk:=heap_alloc_new W (boxT e0 (.slice none 0 0) e0 (.slice none 0 0));have h1:=h.later hb;obtain⟨pc,kc,hfc,hc1,hc2⟩:=h1.form.rd.1.slice;obtain⟨pd,kd,hfd,hd1,hd2⟩:=h1.form.rd.2.slice;have hcp:=mM h1.form.rd hf;obtain⟨c0,c1,c2,c3,_⟩:=h1.cells;have zl:=h1.tlt;rw[hfc] at c1 hcp;rw[hfd] at c3 hcp;obtain⟨w1,hw1⟩:∃ w1,W.alloc (boxT e0 (.slice none 0 0) e0 (.slice none 0 0))=w1:=⟨_,rfl⟩;obtain⟨B,hBB⟩:∃ B,W.heap.size=B:=⟨_,rfl⟩;rw[hw1] at hb hk c0 c1 c2 c3 zl hcp;rw[hBB] at hk;have hsz:w1.heap.size=B+1:=(by rw[<- hw1,World.size_alloc,hBB]);rw[hsz] at hcp;have HB:=qAq (qBq hb (qBq hk hsz));have HW:=qAq (qBq hw1 hBB);clear h h1 hb hk hw1 hBB hfc hfd hc1 hc2 hd1 hd2 hsz hf;go_enter Tryz.func159,Tryz.ntmps159;go_upto_region 1 with fail;rw[HW.out.1,HW.out.2];go_wp2_with (go_at_call 97;(with_reducible refine hcp.mono ?_);rintro e w2 ⟨q1,d1,q2,d2,ps,rfl,hO,hb2⟩;have hres:=aE (HB.out.2.2▸hb2) HB.out.2.1;have z0:=aA hres 0;have z1:=aA hres 1;have z2:=aA hres 2;have z3:=aA hres 3;have zf:=fun i=>frozen_of_row w2 B i _ _ hres;have zl2:=aC hres;have H2:=qAq (qBq hO (qBq hb2 hres));clear hO hb2 hres hcp);have hS4:=set4 H2.out.2.2 (.string t.nm) (.slice q1 t.cols.length d1) (.string t.key) (.slice q2 t.deps.length d2);have hBx:=bD (aB HB.out.1 (HB.out.2.2▸H2.out.2.1)) (Nat.le_of_eq HW.out.2) (.string t.nm) (.slice q1 t.cols.length d1) (.string t.key) (.slice q2 t.deps.length d2);have hO:=H2.out.1.of (fun q hq=>cG w2 B q (by omega) (.string t.nm) (.slice q1 t.cols.length d1) (.string t.key) (.slice q2 t.deps.length d2));generalize (((w2.setCell _ _).setCell _ _).setCell _ _).setCell _ _=wz at hS4 hBx hO ⊢;have y0:=aA hS4 0;have y1:=aA hS4 1;have y2:=aA hS4 2;have y3:=aA hS4 3;refine bodyPost_ret (v:=.agg #[.string t.nm,(.slice q1 t.cols.length d1),.string t.key,(.slice q2 t.deps.length d2)]) (by simp[results,Tryz.results159,go_sem,y0,y1,y2,y3]) rfl ?_;exact⟨_,_,_,_,ps,rfl,hO.mono (by have:=HW.out.2;omega),hBx⟩
theorem aFc (h:Tb W tb t next A lab) (hf:Few t):Calls Tryz.prog 159 #[.pointer (some ⟨tb,0,none⟩)] W (IsT t W):=by
 obtain⟨i,h1,h2⟩:=h;exact aBn h1 hf
end
theorem aBo (k:Int) (hk:k=1∨k=2) (W:World):Calls Tryz.prog 98 #[.int .i64 k] W fun e w'=>e=.returned (Value.pointer (some ⟨W.heap.size,0,none⟩))/\Col W.heap.size k [] (.slice none 0 0) w'/\Below W.heap.size W w':=by
 have hn:=aER k hk W;clear hk;go_enter Tryz.func98,Tryz.ntmps98;go_wp2_with (go_at_call 130;(with_reducible refine hn.mono ?_);rintro e w2 ⟨rfl,hc,hb⟩;have H2:=qAq (qBq hc hb);clear hc hb hn);go_ret;exact⟨rfl,H2.out⟩
theorem aHa:(Tryz.prog.info? 131).map (fun i=>(i.zero,i.size,i.bytes))=some (some (.pointer none),1,8):=by kernel_rfl
structure NewI (W:World) (t:T) (T0:Nat) (fc fd:Value) (ps:List Value) (j:Nat) (cv:Value) (cb:Nat->Nat) (w:World):Prop where
 box:w.heap[T0]?=some (.cells #[.string t.nm,fc,.string t.key,fd,cv,.map none,.slice none 0 0,.slice none 0 0,.slice none 0 0,(Value.int .i64 (0))] 116)
 form:OwnT w 0 fc fd t ps
 row:HRow w (T0+1) 131 1 cv j (ptrs cb j)
 col:∀ k (_:k<j) (h:k<t.cols.length),Col (cb k) t.cols[k].kd [] (.slice none 0 0) w
 gt:∀ k,k<j->T0<cb k
 inj:∀ k l,k<j->l<j->cb k=cb l->k=l
 low:W.heap.size<=T0
 below:Below W.heap.size W w
section
variable {W w w':World} {t:T} {T0 j:Nat} {fc fd cv:Value} {ps:List Value} {cb:Nat->Nat}
theorem NewI.later (h:NewI W t T0 fc fd ps j cv cb w) (hb:Below w.heap.size w w'):NewI W t T0 fc fd ps j cv cb w' :=
 ⟨aE hb h.box,h.form.later hb,h.row.later hb,fun k h1 h2=>(h.col k h1 h2).later hb,h.gt,h.inj,h.low,aB h.below hb⟩
theorem aBp (cb:Nat->Nat) (j c:Nat):ptrs cb j++[(Value.pointer (some ⟨c,0,none⟩))]=ptrs (updF cb j c) (j+1):=by
 unfold ptrs;rw[List.range_succ,List.map_append,List.map_singleton,bM]
 congr 1
 apply List.map_congr_left;intro k hk;rw[bC _ _ (by have:=List.mem_range.1 hk;omega)]
theorem NewI.add (h:NewI W t T0 fc fd ps j cv cb w) {c:Nat} (hj:j<t.cols.length) (hjm:j<=1000) (hc:Col c t.cols[j].kd [] (.slice none 0 0) w) (hgt:T0<c) (hnew:∀ k,k<j->cb k≠c) :
  ∃ g cap w3,(Builtin.append_ #[113,113] 113 #[cv,.slice (some ⟨w.heap.size,0,none⟩) 1 1]).run Tryz.prog (w.alloc (.cells #[(Value.pointer (some ⟨c,0,none⟩))] 131))=.ok (.slice (some ⟨g,0,none⟩) (j+1) cap) w3/\T0<w3.heap.size/\w3.frozen? ⟨T0,4,none⟩=false/\(∃ u,w3.cell? ⟨T0,4,none⟩=some u) /\
   NewI W t T0 fc fd ps (j+1) (.slice (some ⟨g,0,none⟩) (j+1) cap) (updF cb j c) (w3.setCell ⟨T0,4,none⟩ (.slice (some ⟨g,0,none⟩) (j+1) cap)):=by
 have hT:=aC h.box;obtain⟨g,cap,w3,hrun,r3,g3,own⟩:=app_one (ty:=113) Tryz.underlying113 aHa rfl (by decide) (by decide) w (T0+1) h.row (by omega) (by omega) #[(Value.pointer (some ⟨c,0,none⟩))] rfl (by simp[Value.oneCell'])
 have hne:∀ b,cv.ownBlock=some b->b≠T0/\∃ cur,w.heap[b]?=some (.cells cur 131):=fun b hb=>by
  obtain⟨h1,cur,h2⟩:=h.row.block b hb;exact⟨by omega,cur,h2⟩
 have hbox3:w3.heap[T0]?=_:=(g3.block T0 hT (fun e=>(hne T0 e.symm).1 rfl)).trans h.box;have hty:Ty w3 T0:=⟨_,116,hbox3,rfl⟩
 have hkeep:∀ (b:Nat) (cur:Array Value) (e:TypeId) (m:Nat×Nat),w.heap[b]?=some (.cells cur e m)->e≠131->w3.heap[b]?=w.heap[b]?:=fun b cur e m hb he=>g3.block b (aC hb) (fun h1=>by
  obtain⟨_,cur',h2⟩:=hne b h1.symm;rw[hb] at h2;cases h2;exact he rfl)
 have hrow:∀ {base:Nat} {e:TypeId} {size:Nat} {v:Value} {n:Nat} {xs:List Value},HRow w base e size v n xs->e≠131->HRow w3 base e size v n xs:=fun hr he=>hr.of (fun k hk=>by
  obtain⟨_,cur,hb⟩:=hr.block k hk;exact hkeep k _ _ _ hb he)
 have hf3:OwnT w3 0 fc fd t ps:=⟨hrow h.form.c (by decide),h.form.n,hrow h.form.d (by decide),fun q x y=>hrow (h.form.l q x y) (by decide)⟩
 have hcol3:∀ {cb0:Nat} {kind:Int} {l:List T3} {v:Value},Col cb0 kind l v w->Col cb0 kind l v w3:=fun {cb0 kind l v} hc=>by
  obtain⟨hty1,hty2⟩:=hc.ty;obtain⟨⟨L,W0,hm,hcn⟩,hr,ho⟩:=hc;have hb0:∀ b,Ty w b->w3.heap[b]?=w.heap[b]?:=(fun b ⟨cs,ty,h1,h2⟩=>hkeep b cs ty _ h1 (fun e=>by rw[e] at h2;cases h2));have e:=hb0 cb0 hty1;obtain⟨cv0,m,q⟩:=hm.dm.mp;obtain⟨tt,p,r1,r2,r3'⟩:=m.rt
  exact⟨⟨L,W0,⟨(World.cell?_of_block (w:=w) e).trans hm.c0,(World.cell?_of_block (w:=w) e).trans hm.c1,⟨⟨cv0,⟨m.dm,(World.cell?_of_block (w:=w) e).trans m.c0,⟨tt,p,(World.cell?_of_block (w:=w) e).trans r1,Tr.of_nodes (fun b cs hb=>hkeep b cs 220 _ hb (by decide)) r2,r3'⟩,fun j=>(World.frozen?_of_block (w:=w) e).trans (m.fz j),m.srt,
   m.bel.trans ⟨g3.os,g3.tape,g3.output,g3.size,fun k hk=>absurd hk (Nat.not_lt_zero _)⟩,m.ty.of e⟩,q⟩,hm.dm.pos,hm.dm.len⟩,(World.cell?_of_block (w:=w) e).trans hm.c4⟩,hcn⟩,hr.of (fun k hk2=>hb0 k (hty2 k hk2)),ho⟩
 have htn:Tn (fun b=>b=T0) w3 (w3.setCell ⟨T0,4,none⟩ (.slice (some ⟨g,0,none⟩) (j+1) cap)):=Tn.of_chg ((Chg.refl (fun b=>b=T0) w3).setCell (p:=⟨T0,4,none⟩) (fun _=>rfl) _) (fun b _ hb=>.inl (by rw[hb];exact hty));have hbel3:Below W.heap.size W w3:=h.below.trans ⟨g3.os,g3.tape,g3.output,g3.size,fun k hk=>g3.block k (Nat.lt_of_lt_of_le hk h.below.size) (fun e=>by have:=(h.row.lt k e.symm).1;have:=h.low;omega)⟩;refine⟨g,cap,w3,hrun,aC hbox3,frozen_of_row w3 T0 4 _ _ hbox3,⟨_,aA hbox3 4⟩,heap_setCell_same _ T0 4 _ _ _ hbox3,hf3.tn htn,?_,fun k h1 h2=>?_,fun k hk=>?_,fun k l hk hl e=>?_,h.low,hbel3.setCell (p:=⟨T0,4,none⟩) h.low _⟩
 ·rw[<- aBp];exact r3.tn htn rfl
 ·by_cases e:k=j
  ·subst e;rw[bM];exact (hcol3 hc).tn htn (by omega) (fun b hb=>by cases hb)
  rw[bC _ _ e];exact (hcol3 (h.col k (by omega) h2)).tn htn (by have:=h.gt k (by omega);omega) (fun b hb=>by cases hb)
 ·by_cases e:k=j
  ·subst e;rw[bM];exact hgt
  rw[bC _ _ e];exact h.gt k (by omega)
 by_cases ek:k=j <;> by_cases el:l=j
 ·rw[ek,el]
 ·rw[ek,bM,bC _ _ el] at e;exact absurd e.symm (hnew l (by omega))
 ·rw[el,bM,bC _ _ ek] at e;exact absurd e (hnew k (by omega))
 rw[bC _ _ ek,bC _ _ el] at e;exact h.inj k l (by omega) (by omega) e
theorem NewI.tb (h:NewI W t T0 fc fd ps t.cols.length cv cb w):∃ lab,Tb w T0 t 0 [] lab/\∀ b,lab b≠0->W.heap.size<=b:=by
 classical
 obtain⟨lab,hlab⟩:∃ lab:Nat->Nat,lab=fun b=>if b=T0 then 1 else if hx:∃ k,k<t.cols.length/\cb k=b then 6+2*Classical.choose hx else 0:=⟨_,rfl⟩
 have hl1:lab T0=1:=by rw[hlab];simp
 have hl6:∀ k,k<t.cols.length->lab (cb k)=6+2*k:=fun k hk=>by
  have hne:cb k≠T0:=(by have:=h.gt k hk;omega);have hx:∃ l,l<t.cols.length/\cb l=cb k:=⟨k,hk,rfl⟩;rw[hlab];simp only;rw[if_neg hne,dif_pos hx]
  have:=Classical.choose_spec hx
  rw[h.inj _ k this.1 hk this.2]
 have hsup:∀ b,lab b≠0->b=T0∨∃ k,k<t.cols.length/\cb k=b:=fun b hb=>by
  apply Classical.byContradiction;intro hno;apply hb;rw[hlab];simp only;rw[if_neg (fun e=>hno (.inl e)),dif_neg (fun e=>hno (.inr e))]
 refine⟨lab,⟨⟨fc,fd,cv,.map none,.slice none 0 0,.slice none 0 0,.slice none 0 0,ps,cb,fun _=>.slice none 0 0,fun _=>none,0,0,[],[],fun _=>false,fun _=>[]⟩,⟨⟨h.form,HRow.mono h.row (Nat.zero_le _),fun k hk=>h.col k hk hk,.inl ⟨rfl,rfl,fun _=>rfl⟩,Nat.le_refl _,HRow.nil,⟨[],Mv.nil _,Nrm.nil,fun x=>⟨fun e=>absurd e (eW x),fun e=>by cases e⟩⟩,HRow.nil,hl1,fun b hb=>(by cases hb),fun b hb=>(by cases hb),fun b hb=>(by cases hb),hl6,fun k _ b hb=>(by cases hb),fun b hb=>?_⟩,h.box⟩,?_⟩,fun b hb=>?_⟩
 ·rcases hsup b hb with rfl|⟨k,hk,rfl⟩
  ·exact aC h.box
  exact (h.col k hk hk).lt
 ·exact⟨rfl,fun _ _=>rfl,List.Pairwise.nil,fun a ha=>(by cases ha),fun a ha=>(by cases ha),fun _ _=>rfl,fun _ _ _ hx=>(by cases hx),fun p hp=>(by cases hp),List.nodup_nil,fun p hp=>absurd hp (Nat.not_lt_zero p),fun x=>⟨fun hx=>(by rcases hx with hx|hx <;> cases hx),fun ⟨h1,h2,_⟩=>by omega⟩,Nat.le_refl _,Nat.zero_le _,Nat.zero_le _⟩
 rcases hsup b hb with rfl|⟨k,hk,rfl⟩
 ·exact h.low
 have:=h.gt k hk;have:=h.low;omega
def colPV (kd:Int) (base:Nat):Par.VW:=⟨fun v w=>∃ c,v=(Value.pointer (some ⟨c,0,none⟩))/\base<=c/\Col c kd [] (.slice none 0 0) w,fun _ _ _ ⟨c,h1,h2,h3⟩ hb=>⟨c,h1,h2,h3.later hb⟩⟩
def IsNew (t:T) (W:World) (e:Ending) (w':World):Prop:=∃ tb lab,e=.returned (Value.pointer (some ⟨tb,0,none⟩))/\Tb w' tb t 0 [] lab/\(∀ b,lab b≠0->W.heap.size<=b)/\Below W.heap.size W w'
theorem mX {cv0 dv0:Value} (h:RdT W cv0 dv0 t) (hf:Few t) (hk:∀ c∈t.cols,c.kd=1∨c.kd=2):Calls Tryz.prog 63 #[.agg #[.string t.nm,cv0,.string t.key,dv0]] W (IsNew t W):=by
 obtain⟨pc,kc,hfc,hc1,hc2⟩:=h.1.slice;obtain⟨pd,kd,hfd,hd1,hd2⟩:=h.2.slice;subst hfc hfd;have hb:=aD W (boxT t.nm (.slice pc t.cols.length kc) t.key (.slice pd t.deps.length kd));have hbx:=heap_alloc_new W (boxT t.nm (.slice pc t.cols.length kc) t.key (.slice pd t.deps.length kd));have h1:=h.later hb;have hcp:=mM h1 hf;obtain⟨n,hn⟩:∃ n,t.cols.length=n:=⟨_,rfl⟩;obtain⟨nd,hnd⟩:∃ n,t.deps.length=n:=⟨_,rfl⟩;obtain⟨w1,hw1⟩:∃ w1,W.alloc (boxT t.nm (.slice pc t.cols.length kc) t.key (.slice pd t.deps.length kd))=w1:=⟨_,rfl⟩;obtain⟨B,hBB⟩:∃ B,W.heap.size=B:=⟨_,rfl⟩;rw[hw1] at hb hbx hcp h1;rw[hBB] at hbx;have hsz:w1.heap.size=B+1:=(by rw[<- hw1,World.size_alloc,hBB]);rw[hn] at hc1;obtain⟨nm,hnm⟩:∃ x,t.nm=x:=⟨_,rfl⟩;obtain⟨key,hkey⟩:∃ x,t.key=x:=⟨_,rfl⟩;rw[hn,hnd] at hcp h1 hbx hw1;rw[hn,hnd];rw[hnm,hkey] at hcp hbx hw1;rw[hnm,hkey];have z0:=aA hbx 0;have z1:=aA hbx 1;have z2:=aA hbx 2;have z3:=aA hbx 3;have zl:=aC hbx;have HB:=qAq (qBq hb (qBq hbx (qBq hsz h1)));have HW:=qAq (qBq hw1 hBB);have HN:=qAq (qBq hn (qBq hnd (qBq hnm (qBq hkey (qBq hk hf)))));unfold maxLen at hc2;have HR:=qAq h;clear h h1 hb hbx hw1 hBB hn hnd hnm hkey hsz hf hk hd1 hd2;go_enter Tryz.func63,Tryz.ntmps63;go_upto_region 1 with fail;rw[HW.out.1,HW.out.2];go_upto_region 2 with (go_at_call 97;(with_reducible refine hcp.mono ?_);rintro e w2 ⟨q1,d1,q2,d2,ps,rfl,hO,hb2⟩;have H2:=qAq (qBq hO hb2);clear hO hb2 hcp z0 z1 z2 z3 zl);have hb3:=aD w2 (.cells #[.string nm,.slice q1 n d1,.string key,.slice q2 nd d2,.slice none 0 0,.map none,.slice none 0 0,.slice none 0 0,.slice none 0 0,(Value.int .i64 (0))] 116);have hx3:=heap_alloc_new w2 (.cells #[.string nm,.slice q1 n d1,.string key,.slice q2 nd d2,.slice none 0 0,.map none,.slice none 0 0,.slice none 0 0,.slice none 0 0,(Value.int .i64 (0))] 116);obtain⟨w3,hw3⟩:∃ w3,w2.alloc (.cells #[.string nm,.slice q1 n d1,.string key,.slice q2 nd d2,.slice none 0 0,.map none,.slice none 0 0,.slice none 0 0,.slice none 0 0,(Value.int .i64 (0))] 116)=w3:=⟨_,rfl⟩;obtain⟨T0,hT0⟩:∃ x,w2.heap.size=x:=⟨_,rfl⟩;rw[hw3] at hb3 hx3 ⊢;rw[hT0] at hx3 ⊢;have hbW2:Below W.heap.size W w2:=aB HB.out.1 H2.out.2
 have hN0:NewI W t T0 (.slice q1 n d1) (.slice q2 nd d2) ps 0 (.slice none 0 0) (fun _=>0) w3 :=
  ⟨by rw[HN.out.2.2.1,HN.out.2.2.2.1];exact hx3,(H2.out.1.mono (Nat.zero_le _)).later hb3,HRow.nil,fun k hk=>absurd hk (Nat.not_lt_zero k),fun k hk=>absurd hk (Nat.not_lt_zero k),fun k l hk=>absurd hk (Nat.not_lt_zero k),by rw[<- hT0];exact hbW2.size,aB hbW2 hb3⟩
 have hx1:=aE (aB H2.out.2 hb3) HB.out.2.1;have z1:=aA hx1 1;have zl:=aC hx1;have HN0:=qAq hN0;clear hb3 hx3 hw3 hT0 hbW2 hN0 hx1;go_wp2_with fail;go_loopg [13] (n+1) (fun gh jv w=>∃ (j:Nat) (cv:Value) (cb:Nat->Nat),jv=.int .i64 (j:Int)/\j<=n/\n+1<=j+gh/\NewI W t T0 (.slice q1 n d1) (.slice q2 nd d2) ps j cv cb w)
 case atStart=>exact⟨0,_,_,rfl,Nat.zero_le _,by omega,HN0.out⟩
 obtain⟨j,cv,cb,rfl,hj,hg,hNj⟩:=hrel;clear z1 zl;by_cases hlt:j<n
 ·have hjl:j<t.cols.length:=(by rw[HN.out.1];exact hlt);have hrd:=(HR.out.later hNj.below).1;rw[HN.out.1] at hrd;obtain⟨bc,oc,rfl,hbc,c0,c1,c2,c3⟩:=RdC.col hrd hjl;obtain⟨pv,kv,rfl,_,_⟩:=hNj.row.isslice;have hkj:=HN.out.2.2.2.2.1 _ (List.getElem_mem hjl);have hjm:j<=1000:=(by have:=HN.out.2.2.2.2.2.1;omega);obtain⟨d,hd⟩:∃ d,t.cols[j]=d:=⟨_,rfl⟩;rw[hd] at c0 c1 c2 c3 hkj;obtain⟨x,kd2,mu,tg⟩:=d;simp only at c0 c1 c2 c3 hkj;have hb4:=aD wr (.cells #[.string x,.int .i64 kd2,.bool mu,.string tg] 95);have hx4:=heap_alloc_new wr (.cells #[.string x,.int .i64 kd2,.bool mu,.string tg] 95);have hN4:=hNj.later hb4;obtain⟨C0,hC0⟩:∃ y,wr.heap.size=y:=⟨_,rfl⟩;obtain⟨w4,hw4⟩:∃ y,wr.alloc (.cells #[.string x,.int .i64 kd2,.bool mu,.string tg] 95)=y:=⟨_,rfl⟩;rw[hw4] at hb4 hx4 hN4;rw[hC0] at hx4;have HD:=qAq (qBq hd (qBq hx4 (qBq hN4 (qBq hw4 (qBq hC0 hb4)))));have H5:=qAq hNj;have hji:(j:Int)<(n:Int):=(by omega);have hT4:=aC hN4.box;have hC4:=aC hx4;clear hrd hbc hd hb4 hx4 hN4 hw4 hC0 hNj;go_upto_region 5 with fail;rw[HD.out.2.2.2.1,HD.out.2.2.2.2.1]
  have hem:Calls Tryz.prog 98 #[.int .i64 kd2] w4.drew fun e w'=>∃ c,e=.returned (Value.pointer (some ⟨c,0,none⟩))/\w4.heap.size<=c/\Col c kd2 [] (.slice none 0 0) w'/\Below w4.heap.size w4 w' :=
   (aBo kd2 hkj w4.drew).mono (fun e w'' ⟨h1,h2,h3⟩=>⟨_,h1,Nat.le_refl _,h2,(aF w4).trans h3⟩)
  have ent33:=enters_of Tryz.func98 (by kernel_rfl) rfl;have k4:=aA HD.out.2.2.1.box 4;have k1:=aA HD.out.2.1 1
  go_region_law (first
   | (refine cA ent33 [.int .i64 kd2] (by simp[Act.eval]) ?_;(with_reducible refine Calls.mono hem ?_);rintro e y2 ⟨c7,rfl,hge,hcol,hb7⟩;have hN5:=HD.out.2.2.1.later hb7;have r4:=aA hN5.box 4;have r1:=aA (aE hb7 HD.out.2.1) 1;have rt:=aC hN5.box;have rc:=aC (aE hb7 HD.out.2.1);have hcol':Col c7 t.cols[j].kd [] (.slice none 0 0) y2:=(by rw[HD.out.1];exact hcol);obtain⟨g,cap,w6,hrun,y1,y2',⟨y3,y4⟩,hN6⟩:=hN5.add hjl hjm hcol' (by omega) (fun k hk e=>(by have:=(H5.out.col k hk (by omega)).lt;have:=HD.out.2.2.2.2.2.size;omega));have H6:=qAq hN6;clear hN6 hcol hcol' hge hN5 hb7 hem;refine⟨_,rfl,?_⟩)
   | refine bJ rfl (.tmp 21) (.tmp 25) 113 rfl rfl rfl hrun ?_)
  all_goals
   go_wp2_with fail;go_roundg (n-j)
   case measure=>omega
   case rel=>exact⟨j+1,_,_,by go_num,by omega,by omega,H6.out⟩
 obtain rfl:j=n:=(by omega);have hT:∃ lab,Tb wr T0 t 0 [] lab/\∀ b,lab b≠0->W.heap.size<=b:=NewI.tb (by rw[HN.out.1];exact hNj);have HF:=qAq (qBq hT hNj.below);clear hT hNj;go_wp2_with fail;go_ret;obtain⟨⟨lab,h1,h2⟩,h3⟩:=HF.out;exact⟨T0,lab,rfl,h1,h2,h3⟩
end
