import Derived.Test.YthlccadnojnkaaaGreatZk29
set_option maxHeartbeats 8000000
set_option maxRecDepth 100000
namespace Go.Proofs.YthlccadnojnkaaaGreat
open Go Go.RowKit Go.Proofs
variable {mv:Value}
theorem aHo {l:List T} {x:ByteArray} (j:Nat) (h:j<l.length) (hp:isT x l[j]=true) (hn:∀ i (hi:i<j),isT x (l[i]'(by omega))=false):ixT l x=(j:Int):=by
 obtain⟨_,_,h3⟩:=eN (p:=isT x) l j h hp hn;unfold ixT;rw[h3]
theorem aDl {l:List T} {x:ByteArray} (hn:∀ i (hi:i<l.length),isT x l[i]=false):ixT l x=-1:=by
 obtain⟨_,_,h3⟩:=iZ (p:=isT x) l hn;unfold ixT;rw[h3]
theorem bZ (l:List T) (x:ByteArray):(ixT l x=-1/\hasT l x=false/\findT l x=none)∨∃ (j:Nat) (h:j<l.length),ixT l x=(j:Int)/\hasT l x=true/\findT l x=some l[j]:=by
 rw[dK];unfold ixT findT
 have:=jI (p:=isT x) l
 cases h:l.findIdx? (isT x) with
 | none=>rw[h] at this;simp only at this;rw[this];exact .inl ⟨rfl,rfl,rfl⟩
 | some j=>rw[h] at this;obtain⟨h1,h2,_⟩:=this;rw[h2];exact .inr ⟨j,h1,rfl,rfl,rfl⟩
theorem cI (l:List C) (x:ByteArray):(ixC l x=-1/\hasC l x=false/\colOf l x=none)∨∃ (j:Nat) (h:j<l.length),ixC l x=(j:Int)/\hasC l x=true/\colOf l x=some l[j]:=by
 rw[pN];unfold ixC colOf
 have:=jI (p:=isC x) l
 cases h:l.findIdx? (isC x) with
 | none=>rw[h] at this;simp only at this;rw[this];exact .inl ⟨rfl,rfl,rfl⟩
 | some j=>rw[h] at this;obtain⟨h1,h2,_⟩:=this;rw[h2];exact .inr ⟨j,h1,rfl,rfl,rfl⟩
theorem cJ {ts:List T} {v:Value} {x:ByteArray} {W:World} (h:RdTs W v ts):Calls Tryz.prog 36 #[v,.string x] W fun e w'=>e=.returned (.int .i64 (ixT ts x))/\w'=W:=by
 obtain⟨p,cap,rfl,hc,hm⟩:=h.slice;obtain⟨n,hn⟩:∃ n,ts.length=n:=⟨_,rfl⟩;unfold maxLen at hm;rw[hn] at hc ⊢;rw[hn] at h;have HR:=qAq h;have HN:=qAq hn;clear h hn;go_enter Tryz.func36,Tryz.ntmps36;go_wp2_with fail;go_loopg [5] (n+1) (fun gh jv w=>∃ (j:Nat),jv=.int .i64 (j:Int)/\j<=n/\n+1<=j+gh/\(∀ i (h:i<ts.length),i<j->isT x ts[i]=false)/\w=W)
 case atStart=>exact⟨0,rfl,Nat.zero_le _,by omega,fun i _ hi=>by omega,rfl⟩
 obtain⟨j,rfl,hj,hg,hno,rfl⟩:=hrel;have HI:=qAq hno;clear hno;by_cases hlt:j<n
 ·have hjl:j<ts.length:=(by rw[HN.out];exact hlt);obtain⟨b,off,cv,dv,rfl,hb,c0,_,_,_,_⟩:=RdTs.tab HR.out hjl;obtain⟨t,htj⟩:∃ t,ts[j]=t:=⟨_,rfl⟩;rw[htj] at c0;have HC:=qAq htj;clear htj;cases hx:isT x t
  ·have HX:=qAq hx;have hx2:(t.nm.toList==x.toList)=false:=(by rw[aR];exact hx);clear hx;go_wp2_with fail;go_roundg (n-j)
   case measure=>omega
   refine⟨j+1,by go_num,by omega,by omega,fun i hi hij=>?_,rfl⟩;by_cases e:i=j
   ·subst e;rw[HC.out];exact HX.out
   exact HI.out i hi (by omega)
  have HX:=qAq hx;have hx2:(t.nm.toList==x.toList)=true:=(by rw[aR];exact hx);clear hx;go_wp2_with fail;go_ret;exact⟨aQ (aHo j (by rw[HN.out];exact hlt) (by rw[HC.out];exact HX.out) (fun i hi=>HI.out i _ hi)).symm,rfl⟩
 go_wp2_with fail;go_ret;exact⟨aQ (aDl (fun i hi=>HI.out i hi (by have:=HN.out;omega))).symm,rfl⟩
theorem tS {l:List C} {i:Nat} (hi:i<l.length):colGood l i=(named l[i].nm&&decide (ixC l l[i].nm=(i:Int))):=by
 rw[nH hi]
 congr 1
 rcases cI l l[i].nm with ⟨h1,h2,_⟩ | ⟨j,hj,h1,_,h3⟩
 ·exfalso;unfold hasC at h2;rw[List.any_eq_false] at h2;exact h2 l[i] (List.getElem_mem _) (tM _)
 rw[h1];have hfi:=jI (p:=isC l[i].nm) l
 have hx:l.findIdx? (isC l[i].nm)=some j:=by
  unfold ixC at h1;cases h:l.findIdx? (isC l[i].nm) with
  | none=>rw[h] at h1;simp at h1
  | some k=>rw[h] at h1;simp only at h1;congr 1 <;> omega
 rw[List.findIdx?_eq_some_iff_getElem] at hx;obtain⟨_,hp,hlow⟩:=hx
 have hji:j<=i:=by
  rcases Nat.lt_or_ge i j with h|h
  ·exact absurd (tM l[i].nm) (by have:=hlow i h;simpa [isC] using this)
  exact h
 by_cases e:j=i
 ·subst e;rw[decide_eq_true rfl,Bool.not_eq_true'];unfold hasC;rw[List.any_eq_false];intro c hc;obtain⟨k,hk,rfl⟩:=List.getElem_of_mem hc;rw[List.length_take] at hk;rw[List.getElem_take];exact hlow k (by omega)
 rw[decide_eq_false (by omega),Bool.not_eq_false'];unfold hasC;rw[List.any_eq_true];exact⟨l[j],List.mem_iff_getElem.2 ⟨j,by rw[List.length_take];omega,by rw[List.getElem_take]⟩,hp⟩
def leftRef (l:List C) (d:D) (k:Nat):Bool:=match d.left[k]? with|some x=>hasC l x&&(!eqS x d.right&&!hasS (d.left.take k) x) | none=>true
theorem fI {l:List C} {d:D} {k:Nat} (hk:k<d.left.length):leftRef l d k=(hasC l d.left[k]&&(!eqS d.left[k] d.right&&!hasS (d.left.take k) d.left[k])):=by
 unfold leftRef;rw[List.getElem?_eq_getElem hk]
theorem tT (l:List C) (d:D):depGood l d=((decide (1<=d.left.length)&&decide (d.left.length<=3))&&(hasC l d.right&&(List.range d.left.length).all (leftRef l d))):=by
 unfold depGood leftGood;rw[Bool.eq_iff_iff];simp only[Bool.and_eq_true,List.all_eq_true,List.mem_range,Bool.not_eq_true'];constructor
 ·rintro ⟨⟨h1,h2⟩,h3,h4⟩;refine⟨h1,h3,fun k hk=>?_⟩
  have:=h2 k hk
  rw[kC hk] at this;rw[fI hk];simp only[Bool.and_eq_true,Bool.not_eq_true'] at this ⊢;refine⟨this.1,?_,this.2⟩;unfold hasS at h4;rw[List.any_eq_false] at h4
  have:=h4 d.left[k] (List.getElem_mem _)
  rw[jH];simpa using this
 rintro ⟨h1,h3,h2⟩;refine⟨⟨h1,fun k hk=>?_⟩,h3,?_⟩
 ·have:=h2 k hk
  rw[fI hk] at this;rw[kC hk];simp only[Bool.and_eq_true,Bool.not_eq_true'] at this ⊢;exact⟨this.1,this.2.2⟩
 unfold hasS;rw[List.any_eq_false];intro x hx;obtain⟨k,hk,rfl⟩:=List.getElem_of_mem hx
 have:=h2 k hk
 rw[fI hk] at this;simp only[Bool.and_eq_true,Bool.not_eq_true'] at this;rw[jH,this.2.1];decide
theorem nK (l:List ByteArray) (j:Nat) (h:j<l.length) (x:ByteArray):hasS (l.take (j+1)) x=(hasS (l.take j) x || eqS x l[j]):=by
 unfold hasS;rw[List.take_succ_eq_append_getElem h,List.any_append,List.any_cons,List.any_nil,Bool.or_false]
theorem eQ {x:ByteArray} {b:Bool} (h:named x=b) (w:World) (hs:x.size<=maxLen):Calls Tryz.prog 143 #[.string x] w fun e w'=>e=.returned (.bool b)/\Below w.heap.size w w':=h▸tL x w hs
theorem rH (l:List C) (x:ByteArray):decide (ixC l x<0)=!hasC l x:=by
 rcases cI l x with ⟨h1,h2,_⟩ | ⟨j,_,h1,h2,_⟩
 ·rw[h1,h2];rfl
 rw[h1,h2];simp
theorem aFp (l:List T) (x:ByteArray):decide (0<=ixT l x)=hasT l x:=by
 rcases bZ l x with ⟨h1,h2,_⟩ | ⟨j,_,h1,h2,_⟩
 ·rw[h1,h2];rfl
 rw[h1,h2];simp
theorem xL {t:T} {cv dv v:Value} {ts:List T} {W:World} (h:RdT W cv dv t) (hs:RdTs W v ts) (hsm:SmQ t):Calls Tryz.prog 104 #[v,.agg #[.string t.nm,cv,.string t.key,dv]] W fun e w'=>e=.returned (.bool (namesGood ts t))/\Below W.heap.size W w':=by
 have HK:=qAq (KeepT.new h);have hts:=hs.later (aD W (boxT t.nm cv t.key dv));obtain⟨pc,cc,hcv,hc,hm⟩:=h.c.slice;obtain⟨p,cap,hdv,hc3,hm3⟩:=h.d.slice;obtain⟨n,hn⟩:∃ n,t.cols.length=n:=⟨_,rfl⟩;obtain⟨nd,hnd⟩:∃ n,t.deps.length=n:=⟨_,rfl⟩;obtain⟨B,hB⟩:∃ B,W.heap.size=B:=⟨_,rfl⟩;unfold maxLen at hm hm3;rw[hnd] at hdv hc3;rw[hn] at hcv hc;subst hcv hdv;have HN:=qAq (qBq hn hnd);rw[hB] at HK;have hB2:=qAq hB;have SM:=qAq (qBq hsm.1 hsm.2);obtain⟨w0,hw0⟩:∃ w0,W.alloc (boxT t.nm (.slice pc n cc) t.key (.slice p nd cap))=w0:=⟨_,rfl⟩;rw[hw0] at hts HK;have HW:=qAq hw0;have HTS:=qAq hts;obtain⟨hlt0,z0,z1,z2,z3⟩:=HK.out.cells;have hpos:=aFp ts t.nm;have hfnd:=(fun (w:World) (hb:Below w0.heap.size w0 w)=>cJ (x:=t.nm) (HTS.out.later hb));clear h hs hts hn hnd hB hw0 hsm;cases hn1:named t.nm
 ·have HG:Hid (namesGood ts t=false):=qAq (by unfold namesGood free;rw[hn1];rfl);clear hpos hfnd;go_enter Tryz.func104,Tryz.ntmps104;go_upto_region 1 with fail;rw[HW.out,hB2.out];go_wp2_with (go_at_call 143;(with_reducible refine (eQ hn1 _ SM.out.1).mono ?_);rintro e w1 ⟨rfl,hb⟩);go_ret;exact⟨aH HG.out.symm,hB2.out▸(HK.out.on hb).below⟩
 cases hn2:hasT ts t.nm
 rotate_left
 ·have HG:Hid (namesGood ts t=false):=qAq (by unfold namesGood free;rw[hn1,hn2];rfl);rw[hn2] at hpos;generalize ixT ts t.nm=z at hpos hfnd;have hz:0<=z:=of_decide_eq_true hpos;clear hpos hn2;go_enter Tryz.func104,Tryz.ntmps104;go_upto_region 1 with fail;rw[HW.out,hB2.out]
  go_wp2_with (first
   | (go_at_call 143;(with_reducible refine (eQ hn1 _ SM.out.1).mono ?_);rintro e w1 ⟨rfl,hb⟩;have K1:=qAq (HK.out.on hb);obtain⟨u0,u1,u2,u3,u4⟩:=K1.out.cells;have hf:=hfnd _ hb;clear hfnd)
   | (go_at_call 36;(with_reducible refine hf.mono ?_);rintro e w2 ⟨rfl,rfl⟩))
  go_ret;exact⟨aH HG.out.symm,hB2.out▸K1.out.below⟩
 have HL:Hid (namesGood ts t=(colsGood t.cols&&(keyGood t&&depsGood t.cols t.deps))):=qAq (by unfold namesGood free;rw[hn1,hn2];rfl);rw[hn2] at hpos;generalize ixT ts t.nm=z at hpos hfnd;have hz:¬ 0<=z:=of_decide_eq_false hpos;clear hpos hn2;go_enter Tryz.func104,Tryz.ntmps104;go_upto_region 1 with fail;rw[HW.out,hB2.out]
 go_wp2_with (first
  | (go_at_call 143;(with_reducible refine (eQ hn1 _ SM.out.1).mono ?_);rintro e w1 ⟨rfl,hb⟩;have K1:=qAq (HK.out.on hb);obtain⟨u0,u1,u2,u3,u4⟩:=K1.out.cells;have hf:=hfnd _ hb;clear hfnd)
  | (go_at_call 36;(with_reducible refine hf.mono ?_);rintro e w2 ⟨rfl,rfl⟩))
 clear hn1 hz hf HTS z0 z1 z2 z3 hlt0 u0 u1 u2 u3 u4 HK;go_loopg [5] (n+1) (fun gh jv w=>∃ (j:Nat),jv=.int .i64 (j:Int)/\j<=n/\n+1<=j+gh/\(∀ i,i<j->colGood t.cols i=true)/\KeepT B W B t (.slice pc n cc) (.slice p nd cap) w)
 case atStart=>exact⟨0,rfl,Nat.zero_le _,by omega,fun i hi=>by omega,K1.out⟩
 obtain⟨j,rfl,hj,hg,hno,hK⟩:=hrel;have HI:=qAq (qBq hno hK);clear hno;obtain⟨u0,_,u2,u3,u4⟩:=hK.cells;by_cases hlt:j<n
 ·have hjl:j<t.cols.length:=(by rw[HN.out.1];exact hlt);obtain⟨b,off,rfl,hbl,_⟩:=RdC.col hK.tab.c hjl;have hG:=tS hjl;obtain⟨c,hcj⟩:∃ c,t.cols[j]=c:=⟨_,rfl⟩;have HC:Hid (∀ w,RdC w (.slice (some ⟨b,off,none⟩) n cc) t.cols->w.cell? ⟨b,off+j*4,none⟩=some (.string c.nm)):=qAq (fun w hr=>by rw[<- hcj];exact (RdC.colAt hr hjl).2.1);have hsz:c.nm.size<=maxLen:=SM.out.2 c (by rw[<- hcj];exact List.getElem_mem _);rw[hcj] at hG;have hji:(j:Int)<(n:Int):=(by omega);clear hK hcj hbl;go_upto_region 6 with fail;cases hnm:named c.nm
  ·have HG:Hid (colGood t.cols j=false):=qAq (by rw[hG,hnm];rfl);clear hG;refine Par.wp_region_par 20 [.pointer (some ⟨B,1,none⟩),.slice (some ⟨b,off,none⟩) n cc,.int .i64 j,.pointer (some ⟨b,off+j*4,none⟩),.pointer (some ⟨b,off+j*4,none⟩),.string c.nm,.bool false,.bool true,.bool true,undef,undef,undef,undef,undef,undef,undef,undef,undef,undef,.bool true] (KeepT B W B t (.slice (some ⟨b,off,none⟩) n cc) (.slice p nd cap)) ?A1 ?hm1 ?hB1 ?hA1 (HI.out.2.on (aF wr)) ?hop1 ?hT1
   case hm1=>kernel_rfl
   case hB1=>kernel_rfl
   case hA1 =>
    simp only[Par.putA,Par.dstAt,Act.put,qDq,qEq,qFq,qLq,qGq,qHq,qIq,qJq,qKq];rfl
   case hop1 =>
    simp only[qMq,List.take_zero,Par.GiveAll,and_true];and_intros<;>intro w' hR<;>have HR:=qAq hR
    rotate_left;have k:=hR.cells.2.2.1;rotate_left 4;have k:=HC.out w' hR.tab.c;rotate_left
    ·clear hR;simp only[Par.Gives];go_simp;exact (eQ hnm w' hsz).mono (fun e w'' ⟨he,hb⟩=>⟨he,HR.out.on hb⟩)
    rotate_left 13
    all_goals(clear hR;simp only[Par.Gives];go_simp;all_goals exact HR.out)
   intro w' hR;simp only[qNq,List.drop_nil];go_wp2_with fail;go_ret;exact⟨aH (by rw[HL.out];unfold colsGood;rw[bG j hjl HG.out];rfl),hB2.out▸hR.below⟩
  have hcl:=(fun (w:World) (hr:RdT w (.slice (some ⟨b,off,none⟩) n cc) (.slice p nd cap) t)=>bU (x:=c.nm) hr);obtain⟨z,hzz⟩:∃ z,ixC t.cols c.nm=z:=⟨_,rfl⟩;rw[hzz] at hcl hG;by_cases hzj:z=(j:Int)
  ·have HG:Hid (colGood t.cols j=true):=qAq (by rw[hG,hnm,decide_eq_true hzj];rfl);subst hzj;clear hG hzz;refine Par.wp_region_par 20 [.pointer (some ⟨B,1,none⟩),.slice (some ⟨b,off,none⟩) n cc,.int .i64 j,.pointer (some ⟨b,off+j*4,none⟩),.pointer (some ⟨b,off+j*4,none⟩),.string c.nm,.bool true,.bool false,.bool false,.agg #[.string t.nm,.slice (some ⟨b,off,none⟩) n cc,.string t.key,.slice p nd cap],.pointer (some ⟨B,1,none⟩),.slice (some ⟨b,off,none⟩) n cc,.int .i64 j,.pointer (some ⟨b,off+j*4,none⟩),.pointer (some ⟨b,off+j*4,none⟩),.string c.nm,.int .i64 j,.int .i64 j,.bool false,.bool false] (KeepT B W B t (.slice (some ⟨b,off,none⟩) n cc) (.slice p nd cap)) ?A2 ?hm2 ?hB2 ?hA2 (HI.out.2.on (aF wr)) ?hop2 ?hT2
   case hm2=>kernel_rfl
   case hB2=>kernel_rfl
   case hA2 =>
    simp only[Par.putA,Par.dstAt,Act.put,qDq,qEq,qFq,qLq,qGq,qHq,qIq,qJq,qKq];rfl
   case hop2 =>
    simp only[qMq,List.take_zero,Par.GiveAll,and_true];and_intros<;>intro w' hR<;>have HR:=qAq hR
    rotate_left;have k:=hR.cells.2.2.1;rotate_left 4;have k:=HC.out w' hR.tab.c;rotate_left
    ·clear hR;simp only[Par.Gives];go_simp;exact (eQ hnm w' hsz).mono (fun e w'' ⟨he,hb⟩=>⟨he,HR.out.on hb⟩)
    rotate_left 2;have k0:=hR.cells.1;have k1:=hR.cells.2.1;have k2:=hR.cells.2.2.1;have k3:=hR.cells.2.2.2.1;have k4:=hR.cells.2.2.2.2;rotate_left 2;have k:=hR.cells.2.2.1;rotate_left 4;have k:=HC.out w' hR.tab.c;rotate_left
    ·clear hR;simp only[Par.Gives];go_simp;exact (hcl _ HR.out.tab).mono (fun e w'' ⟨he,hb⟩=>⟨he,HR.out.on hb⟩)
    rotate_left 3
    all_goals(clear hR;simp only[Par.Gives];go_simp;all_goals exact HR.out)
   intro w' hR;simp only[qNq,List.drop_nil];go_wp2_with fail;go_roundg (n-j)
   case measure=>omega
   exact⟨j+1,by go_num,by omega,by omega,fun i hi=>by rcases (by omega:i<j∨i=j) with h|rfl;exact HI.out.1 i h;exact HG.out,hR⟩
  have HG:Hid (colGood t.cols j=false):=qAq (by rw[hG,hnm,decide_eq_false hzj];rfl);have e1:(z==(j:Int))=false:=beq_eq_false_iff_ne.2 hzj;clear hG hzz;refine Par.wp_region_par 20 [.pointer (some ⟨B,1,none⟩),.slice (some ⟨b,off,none⟩) n cc,.int .i64 j,.pointer (some ⟨b,off+j*4,none⟩),.pointer (some ⟨b,off+j*4,none⟩),.string c.nm,.bool true,.bool false,.bool false,.agg #[.string t.nm,.slice (some ⟨b,off,none⟩) n cc,.string t.key,.slice p nd cap],.pointer (some ⟨B,1,none⟩),.slice (some ⟨b,off,none⟩) n cc,.int .i64 j,.pointer (some ⟨b,off+j*4,none⟩),.pointer (some ⟨b,off+j*4,none⟩),.string c.nm,.int .i64 z,.int .i64 j,.bool true,.bool true] (KeepT B W B t (.slice (some ⟨b,off,none⟩) n cc) (.slice p nd cap)) ?A3 ?hm3 ?hB3 ?hA3 (HI.out.2.on (aF wr)) ?hop3 ?hT3
  case hm3=>kernel_rfl
  case hB3=>kernel_rfl
  case hA3 =>
   simp only[Par.putA,Par.dstAt,Act.put,qDq,qEq,qFq,qLq,qGq,qHq,qIq,qJq,qKq];rfl
  case hop3 =>
   simp only[qMq,List.take_zero,Par.GiveAll,and_true];and_intros<;>intro w' hR<;>have HR:=qAq hR
   rotate_left;have k:=hR.cells.2.2.1;rotate_left 4;have k:=HC.out w' hR.tab.c;rotate_left
   ·clear hR;simp only[Par.Gives];go_simp;exact (eQ hnm w' hsz).mono (fun e w'' ⟨he,hb⟩=>⟨he,HR.out.on hb⟩)
   rotate_left 2;have k0:=hR.cells.1;have k1:=hR.cells.2.1;have k2:=hR.cells.2.2.1;have k3:=hR.cells.2.2.2.1;have k4:=hR.cells.2.2.2.2;rotate_left 2;have k:=hR.cells.2.2.1;rotate_left 4;have k:=HC.out w' hR.tab.c;rotate_left
   ·clear hR;simp only[Par.Gives];go_simp;exact (hcl _ HR.out.tab).mono (fun e w'' ⟨he,hb⟩=>⟨he,HR.out.on hb⟩)
   rotate_left 3
   all_goals(clear hR;simp only[Par.Gives];go_simp;all_goals exact HR.out)
  intro w' hR;simp only[qNq,List.drop_nil];go_wp2_with fail;go_ret;exact⟨aH (by rw[HL.out];unfold colsGood;rw[bG j hjl HG.out];rfl),hB2.out▸hR.below⟩
 have HL2:Hid (namesGood ts t=(keyGood t&&depsGood t.cols t.deps)):=qAq (by rw[HL.out];unfold colsGood;rw[bY (fun i hi=>HI.out.1 i (by have:=HN.out.1;omega))];rfl);go_upto_region 8 with fail
 go_cut [57] from 300 to 300 (fun gv wx=>gv=.bool (!keyGood t)/\KeepT B W B t (.slice pc n cc) (.slice p nd cap) wx)
 case first =>
  cases hk:eqS t.key e0
  ·have he:t.key.toList.isEmpty=false:=(by rw[dC];exact hk);have hcl:=bU (x:=t.key) hK.tab;have hng:=rH t.cols t.key;have HG:Hid (keyGood t=hasC t.cols t.key):=qAq (by unfold keyGood;rw[hk];rfl);generalize ixC t.cols t.key=z at hcl hng;cases hh:hasC t.cols t.key
   ·rw[hh] at hng HG;have hz:z<0:=of_decide_eq_true hng;clear hK hk hng hh;go_wp2_with (go_at_call 78;(with_reducible refine hcl.mono ?_);rintro e w2 ⟨rfl,hb⟩);go_meet;exact⟨by rw[HG.out];rfl,HI.out.2.on hb⟩
   rw[hh] at hng HG;have hz:¬ z<0:=of_decide_eq_false hng;clear hK hk hng hh;go_wp2_with (go_at_call 78;(with_reducible refine hcl.mono ?_);rintro e w2 ⟨rfl,hb⟩);go_meet;exact⟨by rw[HG.out];simp;omega,HI.out.2.on hb⟩
  have he:t.key.toList.isEmpty=true:=(by rw[dC];exact hk);have HG:Hid (keyGood t=true):=qAq (by unfold keyGood;rw[hk];rfl);clear hK hk;go_wp2_with fail;go_meet;exact⟨by rw[HG.out];rfl,HI.out.2⟩
 obtain⟨rfl,hK8⟩:=hcut;have K8:=qAq hK8;clear hK8 hK u0 u2 u3 u4;cases hkg:keyGood t
 ·go_wp2_with fail;go_ret;exact⟨aH (by rw[HL2.out,hkg];rfl),hB2.out▸K8.out.below⟩
 have HL3:Hid (namesGood ts t=depsGood t.cols t.deps):=qAq (by rw[HL2.out,hkg];rfl);clear hkg;go_wp2_with fail;go_loopg [6] (nd+1) (fun gh jv w=>∃ (j:Nat),jv=.int .i64 (j:Int)/\j<=nd/\nd+1<=j+gh/\(∀ i,i<j->depAt t.cols t.deps i=true)/\KeepT B W B t (.slice pc n cc) (.slice p nd cap) w)
 case atStart=>exact⟨0,rfl,Nat.zero_le _,by omega,fun i hi=>by omega,K8.out⟩
 obtain⟨j2,rfl,hj2,hg2,hno2,hK⟩:=hrel;have HI2:=qAq (qBq hno2 hK);clear hno2;obtain⟨u0,_,u2,u3,u4⟩:=hK.cells;by_cases hlt2:j2<nd
 ·have hjl2:j2<t.deps.length:=(by rw[HN.out.2];exact hlt2);obtain⟨b,off,lv,rfl,hb,c0,c1,hlv⟩:=RdD.dep hK.tab.d hjl2;obtain⟨d,hdj⟩:∃ d,t.deps[j2]=d:=⟨_,rfl⟩
  have hG:depAt t.cols t.deps j2=((decide (1<=d.left.length)&&decide (d.left.length<=3))&&(hasC t.cols d.right&&(List.range d.left.length).all (leftRef t.cols d))):=by
   unfold depAt;rw[List.getElem?_eq_getElem hjl2,hdj];exact tT _ _
  rw[hdj] at c1 hlv;obtain⟨pl,cl,rfl,hcl1,hcl2⟩:=hlv.slice;unfold maxLen at hcl2;obtain⟨nl,hnl⟩:∃ n,d.left.length=n:=⟨_,rfl⟩;rw[hnl] at hlv c0 hG hcl1;have HD:=qAq (KeepD.new hK hlv);have HNL:=qAq hnl;clear hdj hK hlv hnl;go_upto_region 14 with fail;obtain⟨S,hS⟩:∃ S,wr.heap.size=S:=⟨_,rfl⟩;obtain⟨w1,hw1⟩:∃ w1,wr.alloc (.cells #[.slice pl nl cl,.string d.right] 124)=w1:=⟨_,rfl⟩;rw[hw1,hS] at HD ⊢;clear hw1 hS c0 c1 hb u0 u2 u3 u4;obtain⟨y0,y1,y2⟩:=HD.out.cells;obtain⟨u0,u1,u2,u3,u4⟩:=HD.out.tb.cells;have hbad:depAt t.cols t.deps j2=false->namesGood ts t=false:=(fun h=>by rw[HL3.out];exact bG j2 hjl2 h);have HBAD:=qAq hbad;clear hbad;by_cases h1:nl<1
  ·have HG:Hid (depAt t.cols t.deps j2=false):=qAq (by rw[hG,decide_eq_false (show ¬ 1<=nl by omega)];rfl);clear hG;go_wp2_with fail;go_ret;exact⟨aH (HBAD.out HG.out).symm,hB2.out▸HD.out.tb.below⟩
  by_cases h3:3<nl
  ·have HG:Hid (depAt t.cols t.deps j2=false):=qAq (by rw[hG,decide_eq_false (show ¬ nl<=3 by omega),Bool.and_false];rfl);clear hG;go_wp2_with fail;go_ret;exact⟨aH (HBAD.out HG.out).symm,hB2.out▸HD.out.tb.below⟩
  rw[decide_eq_true (show 1<=nl by omega),decide_eq_true (show nl<=3 by omega),Bool.true_and,Bool.true_and] at hG;have hcl:=bU (x:=d.right) HD.out.tb.tab;have hng:=rH t.cols d.right;generalize ixC t.cols d.right=z at hcl hng;cases hh:hasC t.cols d.right
  ·rw[hh] at hng hG;have hz:z<0:=of_decide_eq_true hng;have HG:Hid (depAt t.cols t.deps j2=false):=qAq hG;clear hng hh hG;go_wp2_with (go_at_call 78;(with_reducible refine hcl.mono ?_);rintro e w2 ⟨rfl,hb⟩);go_ret;exact⟨aH (HBAD.out HG.out).symm,hB2.out▸(HD.out.on hb).tb.below⟩
  rw[hh,Bool.true_and] at hG;rw[hh] at hng;have hz:¬ z<0:=of_decide_eq_false hng;have HG:=qAq hG;clear hng hh hG;go_wp2_with (go_at_call 78;(with_reducible refine hcl.mono ?_);rintro e w2 ⟨rfl,hb⟩;have K2:=qAq (HD.out.on hb);clear hb);clear hz hcl y0 y1 y2 u0 u1 u2 u3 u4;go_loopg [8] (nl+1) (fun gh kv w=>∃ (k:Nat),kv=.int .i64 (k:Int)/\k<=nl/\nl+1<=k+gh/\(∀ i,i<k->leftRef t.cols d i=true)/\KeepD B W B S t (.slice pc n cc) (.slice (some ⟨b,off,none⟩) nd cap) d (.slice pl nl cl) w)
  case atStart=>exact⟨0,rfl,Nat.zero_le _,by omega,fun i hi=>by omega,K2.out⟩
  obtain⟨k,rfl,hk,hg3,hno3,hK⟩:=hrel;have HI3:=qAq (qBq hno3 hK);clear hno3;obtain⟨y0,y1,y2⟩:=hK.cells;obtain⟨u0,_,u2,u3,u4⟩:=hK.tb.cells;by_cases hlt3:k<nl
  ·have hkl:k<d.left.length:=(by rw[HNL.out];exact hlt3);obtain⟨bl,ol,rfl,hbl,_⟩:=RdS.word hK.left hkl;have hR0:=fI (l:=t.cols) hkl;obtain⟨x,hx⟩:∃ x,d.left[k]=x:=⟨_,rfl⟩;have HX:Hid (∀ w,RdS w (.slice (some ⟨bl,ol,none⟩) nl cl) d.left->w.cell? ⟨bl,ol+k,none⟩=some (.string x)):=qAq (fun w hr=>by rw[<- hx];exact (RdS.wordAt hr hkl).2);rw[hx] at hR0;have hki:(k:Int)<(nl:Int):=(by omega);have hcl:=(fun (w:World) (hr:RdT w (.slice pc n cc) (.slice (some ⟨b,off,none⟩) nd cap) t)=>bU (x:=x) hr);have hng:=rH t.cols x;generalize ixC t.cols x=z at hcl hng;have hbadk:leftRef t.cols d k=false->namesGood ts t=false:=(fun h=>HBAD.out (by rw[HG.out];exact bG k hlt3 h));have HBK:=qAq hbadk;clear hK hx hbadk;go_upto_region 19 with fail;clear y0 y1 y2 u0 u2 u3 u4;cases hh:hasC t.cols x
   ·rw[hh] at hng hR0;have hz:z<0:=of_decide_eq_true hng;have HG3:Hid (leftRef t.cols d k=false):=qAq hR0;clear hng hR0 hh;refine Par.wp_region_par 18 [.agg #[.string t.nm,.slice pc n cc,.string t.key,.slice (some ⟨b,off,none⟩) nd cap],.pointer (some ⟨S,0,none⟩),.slice (some ⟨bl,ol,none⟩) nl cl,.int .i64 k,.pointer (some ⟨bl,ol+k,none⟩),.string x,.int .i64 z,.bool true,.bool true,undef,undef,undef,undef,undef,undef,undef,undef,.bool true] (KeepD B W B S t (.slice pc n cc) (.slice (some ⟨b,off,none⟩) nd cap) d (.slice (some ⟨bl,ol,none⟩) nl cl)) ?A4 ?hm4 ?hB4 ?hA4 (HI3.out.2.on (aF wr)) ?hop4 ?hT4
    case hm4=>kernel_rfl
    case hB4=>kernel_rfl
    case hA4 =>
     simp only[Par.putA,Par.dstAt,Act.put,qDq,qEq,qFq,qLq,qGq,qHq,qIq,qJq,qKq];rfl
    case hop4 =>
     simp only[qMq,List.take_zero,Par.GiveAll,and_true];and_intros<;>intro w' hR<;>have HR:=qAq hR
     have k0:=hR.tb.cells.1;have k1:=hR.tb.cells.2.1;have k2:=hR.tb.cells.2.2.1;have k3:=hR.tb.cells.2.2.2.1;have k4:=hR.tb.cells.2.2.2.2;rotate_left 2;have k:=hR.cells.2.1;rotate_left 3;have k:=HX.out w' hR.left;rotate_left
     ·clear hR;simp only[Par.Gives];go_simp;exact (hcl _ HR.out.tb.tab).mono (fun e w'' ⟨he,hb⟩=>⟨he,HR.out.on hb⟩)
     rotate_left 11
     all_goals(clear hR;simp only[Par.Gives];go_simp;all_goals exact HR.out)
    intro w' hR;simp only[qNq,List.drop_nil];go_wp2_with fail;go_ret;exact⟨aH (HBK.out HG3.out).symm,hB2.out▸hR.tb.below⟩
   rw[hh,Bool.true_and] at hR0;rw[hh] at hng;have hz:¬ z<0:=of_decide_eq_false hng;clear hng hh;cases hr:eqS x d.right
   rotate_left
   ·have e1:(x.toList==d.right.toList)=true:=(by rw[aR];exact hr);have HG3:Hid (leftRef t.cols d k=false):=qAq (by rw[hR0,hr];rfl);clear hR0 hr;refine Par.wp_region_par 18 [.agg #[.string t.nm,.slice pc n cc,.string t.key,.slice (some ⟨b,off,none⟩) nd cap],.pointer (some ⟨S,0,none⟩),.slice (some ⟨bl,ol,none⟩) nl cl,.int .i64 k,.pointer (some ⟨bl,ol+k,none⟩),.string x,.int .i64 z,.bool false,.bool false,.pointer (some ⟨S,0,none⟩),.slice (some ⟨bl,ol,none⟩) nl cl,.int .i64 k,.pointer (some ⟨bl,ol+k,none⟩),.string x,.pointer (some ⟨S,1,none⟩),.string d.right,.bool true,.bool true] (KeepD B W B S t (.slice pc n cc) (.slice (some ⟨b,off,none⟩) nd cap) d (.slice (some ⟨bl,ol,none⟩) nl cl)) ?A5 ?hm5 ?hB5 ?hA5 (HI3.out.2.on (aF wr)) ?hop5 ?hT5
    case hm5=>kernel_rfl
    case hB5=>kernel_rfl
    case hA5 =>
     simp only[Par.putA,Par.dstAt,Act.put,qDq,qEq,qFq,qLq,qGq,qHq,qIq,qJq,qKq];rfl
    case hop5 =>
     simp only[qMq,List.take_zero,Par.GiveAll,and_true];and_intros<;>intro w' hR<;>have HR:=qAq hR
     have k0:=hR.tb.cells.1;have k1:=hR.tb.cells.2.1;have k2:=hR.tb.cells.2.2.1;have k3:=hR.tb.cells.2.2.2.1;have k4:=hR.tb.cells.2.2.2.2;rotate_left 2;have k:=hR.cells.2.1;rotate_left 3;have k:=HX.out w' hR.left;rotate_left
     ·clear hR;simp only[Par.Gives];go_simp;exact (hcl _ HR.out.tb.tab).mono (fun e w'' ⟨he,hb⟩=>⟨he,HR.out.on hb⟩)
     rotate_left 3;have k:=hR.cells.2.1;rotate_left 3;have k:=HX.out w' hR.left;rotate_left 2;have k:=hR.cells.2.2;rotate_left 3
     all_goals(clear hR;simp only[Par.Gives];go_simp;all_goals exact HR.out)
    intro w' hR;simp only[qNq,List.drop_nil];go_wp2_with fail;go_ret;exact⟨aH (HBK.out HG3.out).symm,hB2.out▸hR.tb.below⟩
   have e1:(x.toList==d.right.toList)=false:=(by rw[aR];exact hr);have HG3:Hid (leftRef t.cols d k=!hasS (d.left.take k) x):=qAq (by rw[hR0,hr];rfl);clear hR0 hr;refine Par.wp_region_par 18 [.agg #[.string t.nm,.slice pc n cc,.string t.key,.slice (some ⟨b,off,none⟩) nd cap],.pointer (some ⟨S,0,none⟩),.slice (some ⟨bl,ol,none⟩) nl cl,.int .i64 k,.pointer (some ⟨bl,ol+k,none⟩),.string x,.int .i64 z,.bool false,.bool false,.pointer (some ⟨S,0,none⟩),.slice (some ⟨bl,ol,none⟩) nl cl,.int .i64 k,.pointer (some ⟨bl,ol+k,none⟩),.string x,.pointer (some ⟨S,1,none⟩),.string d.right,.bool false,.bool false] (KeepD B W B S t (.slice pc n cc) (.slice (some ⟨b,off,none⟩) nd cap) d (.slice (some ⟨bl,ol,none⟩) nl cl)) ?A6 ?hm6 ?hB6 ?hA6 (HI3.out.2.on (aF wr)) ?hop6 ?hT6
   case hm6=>kernel_rfl
   case hB6=>kernel_rfl
   case hA6 =>
    simp only[Par.putA,Par.dstAt,Act.put,qDq,qEq,qFq,qLq,qGq,qHq,qIq,qJq,qKq];rfl
   case hop6 =>
    simp only[qMq,List.take_zero,Par.GiveAll,and_true];and_intros<;>intro w' hR<;>have HR:=qAq hR
    have k0:=hR.tb.cells.1;have k1:=hR.tb.cells.2.1;have k2:=hR.tb.cells.2.2.1;have k3:=hR.tb.cells.2.2.2.1;have k4:=hR.tb.cells.2.2.2.2;rotate_left 2;have k:=hR.cells.2.1;rotate_left 3;have k:=HX.out w' hR.left;rotate_left
    ·clear hR;simp only[Par.Gives];go_simp;exact (hcl _ HR.out.tb.tab).mono (fun e w'' ⟨he,hb⟩=>⟨he,HR.out.on hb⟩)
    rotate_left 3;have k:=hR.cells.2.1;rotate_left 3;have k:=HX.out w' hR.left;rotate_left 2;have k:=hR.cells.2.2;rotate_left 3
    all_goals(clear hR;simp only[Par.Gives];go_simp;all_goals exact HR.out)
   intro w' hR;simp only[qNq,List.drop_nil];have HR2:=qAq hR;clear hR e1 hz hcl;go_wp2_with fail;go_loopg [9] (k+1) (fun gh mv w=>∃ (m:Nat),mv=.int .i64 (m:Int)/\m<=k/\k+1<=m+gh/\hasS (d.left.take m) x=false/\KeepD B W B S t (.slice pc n cc) (.slice (some ⟨b,off,none⟩) nd cap) d (.slice (some ⟨bl,ol,none⟩) nl cl) w)
   case atStart=>exact⟨0,rfl,Nat.zero_le _,by omega,rfl,HR2.out⟩
   obtain⟨m,rfl,hm2,hg4,hno4,hK⟩:=hrel;by_cases hlt4:m<k
   ·have hml:m<d.left.length:=(by rw[HNL.out];omega);obtain⟨y,hy⟩:∃ y,d.left[m]=y:=⟨_,rfl⟩;have HY:Hid (∀ w,RdS w (.slice (some ⟨bl,ol,none⟩) nl cl) d.left->w.cell? ⟨bl,ol+m,none⟩=some (.string y)):=qAq (fun w hr=>by rw[<- hy];exact (RdS.wordAt hr hml).2);have hstep:=nK d.left m hml x;rw[hy,hno4,Bool.false_or] at hstep;have hmi:(m:Int)<(nl:Int):=(by omega);have HK:=qAq hK;clear hK hy hno4;go_upto_region 24 with fail;cases he:eqS x y
    ·have e2:(y.toList==x.toList)=false:=(by rw[aR,jH];exact he);have HE:Hid (hasS (d.left.take (m+1)) x=false):=qAq (by rw[hstep];exact he);clear hstep he;refine Par.wp_region_par 11 [.pointer (some ⟨S,0,none⟩),.slice (some ⟨bl,ol,none⟩) nl cl,.int .i64 m,.pointer (some ⟨bl,ol+m,none⟩),.string y,.pointer (some ⟨S,0,none⟩),.slice (some ⟨bl,ol,none⟩) nl cl,.int .i64 k,.pointer (some ⟨bl,ol+k,none⟩),.string x,.bool false] (KeepD B W B S t (.slice pc n cc) (.slice (some ⟨b,off,none⟩) nd cap) d (.slice (some ⟨bl,ol,none⟩) nl cl)) ?A7 ?hm7 ?hB7 ?hA7 (HK.out.on (aF wr)) ?hop7 ?hT7
     case hm7=>kernel_rfl
     case hB7=>kernel_rfl
     case hA7 =>
      simp only[Par.putA,Par.dstAt,Act.put,qDq,qEq,qFq,qLq,qGq,qHq,qIq,qJq,qKq];rfl
     case hop7 =>
      simp only[qMq,List.take_zero,Par.GiveAll,and_true];and_intros<;>intro w' hR<;>have HR:=qAq hR
      rotate_left;have k:=hR.cells.2.1;rotate_left 3;have k:=HY.out w' hR.left;rotate_left 2;have k:=hR.cells.2.1;rotate_left 3;have k:=HX.out w' hR.left;rotate_left 2
      all_goals(clear hR;simp only[Par.Gives];go_simp;all_goals exact HR.out)
     intro w' hR;simp only[qNq,List.drop_nil];go_wp2_with fail;go_roundg (k-m)
     case measure=>omega
     exact⟨m+1,by go_num,by omega,by omega,HE.out,hR⟩
    have e2:(y.toList==x.toList)=true:=by rw[aR,jH];exact he
    have HE:Hid (hasS (d.left.take k) x=true):=qAq (by
     unfold hasS;rw[List.any_eq_true];rw[he] at hstep;unfold hasS at hstep;rw[List.any_eq_true] at hstep;obtain⟨q,hq,hq2⟩:=hstep;exact⟨q,(List.take_subset_take_left d.left (by omega)) hq,hq2⟩)
    clear hstep he;refine Par.wp_region_par 11 [.pointer (some ⟨S,0,none⟩),.slice (some ⟨bl,ol,none⟩) nl cl,.int .i64 m,.pointer (some ⟨bl,ol+m,none⟩),.string y,.pointer (some ⟨S,0,none⟩),.slice (some ⟨bl,ol,none⟩) nl cl,.int .i64 k,.pointer (some ⟨bl,ol+k,none⟩),.string x,.bool true] (KeepD B W B S t (.slice pc n cc) (.slice (some ⟨b,off,none⟩) nd cap) d (.slice (some ⟨bl,ol,none⟩) nl cl)) ?A8 ?hm8 ?hB8 ?hA8 (HK.out.on (aF wr)) ?hop8 ?hT8
    case hm8=>kernel_rfl
    case hB8=>kernel_rfl
    case hA8 =>
     simp only[Par.putA,Par.dstAt,Act.put,qDq,qEq,qFq,qLq,qGq,qHq,qIq,qJq,qKq];rfl
    case hop8 =>
     simp only[qMq,List.take_zero,Par.GiveAll,and_true];and_intros<;>intro w' hR<;>have HR:=qAq hR
     rotate_left;have k:=hR.cells.2.1;rotate_left 3;have k:=HY.out w' hR.left;rotate_left 2;have k:=hR.cells.2.1;rotate_left 3;have k:=HX.out w' hR.left;rotate_left 2
     all_goals(clear hR;simp only[Par.Gives];go_simp;all_goals exact HR.out)
    intro w' hR;simp only[qNq,List.drop_nil];go_wp2_with fail;go_ret;exact⟨aH (HBK.out (by rw[HG3.out,HE.out];rfl)).symm,hB2.out▸hR.tb.below⟩
   obtain rfl:m=k:=(by omega);go_wp2_with fail;go_roundg (nl-m)
   case measure=>omega
   exact⟨m+1,by go_num,by omega,by omega,fun i hi=>by rcases (by omega:i<m∨i=m) with h|rfl;exact HI3.out.1 i h;rw[HG3.out,hno4];rfl,hK⟩
  obtain rfl:k=nl:=(by omega);go_wp2_with fail;go_roundg (nd-j2)
  case measure=>omega
  exact⟨j2+1,by go_num,by omega,by omega,fun i hi=>by rcases (by omega:i<j2∨i=j2) with h|rfl;exact HI2.out.1 i h;rw[HG.out];exact bY HI3.out.1,hK.tb⟩
 go_wp2_with fail;go_ret;exact⟨aH (by rw[HL3.out];exact (bY (fun i hi=>HI2.out.1 i (by have:=HN.out.2;omega))).symm),hB2.out▸HI2.out.2.below⟩
theorem pP {t:T} {cv dv v:Value} {ts:List T} {W:World} {b:Bool} (h:RdT W cv dv t) (hs:RdTs W v ts) (hsm:SmQ t) (hb:namesGood ts t=b):Calls Tryz.prog 104 #[v,.agg #[.string t.nm,cv,.string t.key,dv]] W fun e w'=>e=.returned (.bool b)/\Below W.heap.size W w':=hb▸xL h hs hsm
theorem aDm {ts:List T} (hi:InvQ ts) (c:C) (hne:eqS c.tgt e0=false):(ixT ts c.tgt=-1/\leads ts c=3)∨∃ (k:Nat) (hk:k<ts.length),ixT ts c.tgt=(k:Int) /\
  ((eqS ts[k].key e0=true/\leads ts c=9)∨(eqS ts[k].key e0=false/\∃ (q:Nat) (hq:q<ts[k].cols.length),ixC ts[k].cols ts[k].key=(q:Int)/\leads ts c=if ts[k].cols[q].kd=c.kd then 0 else 4)):=by
 rcases bZ ts c.tgt with ⟨h1,_,h3⟩ | ⟨k,hk,h1,_,h3⟩
 ·left
  refine⟨h1,?_⟩;unfold leads;rw[hne,h3];rfl
 right
 refine⟨k,hk,h1,?_⟩
 have hl:leads ts c=(match colOf ts[k].cols ts[k].key with|none=>(9:Int) | some q=>if q.kd=c.kd then 0 else 4):=by
  unfold leads;rw[hne,h3];rfl
 have hm:=List.getElem_mem hk;cases hk0:eqS ts[k].key e0
 ·right
  refine⟨rfl,?_⟩;have hg:=hi.key _ hm;unfold keyGood at hg;rw[hk0,Bool.false_or] at hg;rcases cI ts[k].cols ts[k].key with ⟨_,h5,_⟩ | ⟨q,hq,h5,_,h6⟩
  ·rw[h5] at hg;cases hg
  refine⟨q,hq,h5,?_⟩;rw[hl,h6]
 left
 refine⟨rfl,?_⟩;rw[eZ] at hk0;rw[hl,hk0,aDc (hi.col _ hm)]
theorem aDn {t:T} {cv dv v:Value} {ts:List T} {W:World} (h:RdT W cv dv t) (hs:RdTs W v ts) (hi:InvQ ts) (hsm:SmQ t):Calls Tryz.prog 67 #[v,.agg #[.string t.nm,cv,.string t.key,dv]] W fun e w'=>e=.returned (.int .i64 (mayP ts t))/\Below W.heap.size W w':=by
 have HK:=qAq (show KeepR W.heap.size W W.heap.size t cv dv v ts _ from ⟨KeepT.new h,hs.later (aD W (boxT t.nm cv t.key dv))⟩);obtain⟨pc,cc,hcv,hc,hm⟩:=h.c.slice;obtain⟨p,cap,hdv,hc3,hm3⟩:=h.d.slice;obtain⟨pv,capv,hv,hcv2,hmv⟩:=hs.slice;obtain⟨n,hn⟩:∃ n,t.cols.length=n:=⟨_,rfl⟩;obtain⟨nd,hnd⟩:∃ n,t.deps.length=n:=⟨_,rfl⟩;obtain⟨m,hml⟩:∃ n,ts.length=n:=⟨_,rfl⟩;obtain⟨B,hB⟩:∃ B,W.heap.size=B:=⟨_,rfl⟩;unfold maxLen at hm hm3 hmv;rw[hnd] at hdv hc3;rw[hn] at hcv hc;rw[hml] at hv hcv2;subst hcv hdv hv;have hlim:lim ts t=(decide (8<=m) || (decide (n<1) || (decide (6<n) || decide (3<nd)))):=(by unfold lim;rw[hn,hnd,hml]);have HN:=qAq (qBq hn (qBq hnd hml));rw[hB] at HK;have hB2:=qAq hB;have SM:=qAq (qBq hsm hi);obtain⟨w0,hw0⟩:∃ w0,W.alloc (boxT t.nm (.slice pc n cc) t.key (.slice p nd cap))=w0:=⟨_,rfl⟩;rw[hw0] at HK;have HW:=qAq hw0;obtain⟨hlt0,z0,z1,z2,z3⟩:=HK.out.tb.cells;clear h hs hn hnd hml hB hw0 hsm hi;by_cases hL:lim ts t=true
 ·have HG:Hid (mayP ts t=5):=qAq (by unfold mayP;rw[if_pos hL]);rw[hlim] at hL;clear hlim;by_cases q1:8<=m
  ·clear hL;go_enter Tryz.func67,Tryz.ntmps67;go_upto_region 1 with fail;rw[HW.out,hB2.out];go_wp2_with fail;go_ret;exact⟨aQ HG.out.symm,hB2.out▸HK.out.tb.below⟩
  by_cases q2:n<1
  ·clear hL;go_enter Tryz.func67,Tryz.ntmps67;go_upto_region 1 with fail;rw[HW.out,hB2.out];go_wp2_with fail;go_ret;exact⟨aQ HG.out.symm,hB2.out▸HK.out.tb.below⟩
  by_cases q3:6<n
  ·clear hL;go_enter Tryz.func67,Tryz.ntmps67;go_upto_region 1 with fail;rw[HW.out,hB2.out];go_wp2_with fail;go_ret;exact⟨aQ HG.out.symm,hB2.out▸HK.out.tb.below⟩
  have q4:3<nd:=by
   rw[decide_eq_false q1,decide_eq_false q2,decide_eq_false q3] at hL;simpa using hL
  clear hL;go_enter Tryz.func67,Tryz.ntmps67;go_upto_region 1 with fail;rw[HW.out,hB2.out];go_wp2_with fail;go_ret;exact⟨aQ HG.out.symm,hB2.out▸HK.out.tb.below⟩
 have HL:Hid (mayP ts t=if namesGood ts t=true then (if kindsGood t.cols=true then firstErr (t.cols.map (leads ts)) else 4) else 3):=qAq (by unfold mayP;rw[if_neg hL]);rw[hlim] at hL;simp only[Bool.or_eq_true,decide_eq_true_eq,not_or] at hL;obtain⟨q1,q2,q3,q4⟩:=hL;clear hlim;cases hng:namesGood ts t
 ·have HG:Hid (mayP ts t=3):=qAq (by rw[HL.out,hng];rfl);have hnm:=pP HK.out.tb.tab HK.out.ts SM.out.1 hng;clear hng;go_enter Tryz.func67,Tryz.ntmps67;go_upto_region 1 with fail;rw[HW.out,hB2.out];go_wp2_with (go_at_call 104;(with_reducible refine hnm.mono ?_);rintro e w1 ⟨rfl,hb⟩);go_ret;exact⟨aQ HG.out.symm,hB2.out▸(HK.out.on hb).tb.below⟩
 have HL2:Hid (mayP ts t=if kindsGood t.cols=true then firstErr (t.cols.map (leads ts)) else 4):=qAq (by rw[HL.out,hng];rfl);have hnm:=pP HK.out.tb.tab HK.out.ts SM.out.1 hng;clear hng;go_enter Tryz.func67,Tryz.ntmps67;go_upto_region 1 with fail;rw[HW.out,hB2.out];go_wp2_with (go_at_call 104;(with_reducible refine hnm.mono ?_);rintro e w1 ⟨rfl,hb⟩;have K1:=qAq (HK.out.on hb);clear hb);clear z0 z1 z2 z3 hlt0 q1 q2 q4 hnm HK;go_loopg [5] (n+1) (fun gh jv w=>∃ (j:Nat),jv=.int .i64 (j:Int)/\j<=n/\n+1<=j+gh/\(∀ i,i<j->kindAt t.cols i=true)/\KeepR B W B t (.slice pc n cc) (.slice p nd cap) (.slice pv m capv) ts w)
 case atStart=>exact⟨0,rfl,Nat.zero_le _,by omega,fun i hi=>by omega,K1.out⟩
 obtain⟨j,rfl,hj,hg,hno,hK⟩:=hrel;have HI:=qAq (qBq hno hK);clear hno;obtain⟨u0,_,u2,u3,u4⟩:=hK.tb.cells;by_cases hlt:j<n
 ·have hjl:j<t.cols.length:=(by rw[HN.out.1];exact hlt);obtain⟨b,off,rfl,hbl,_,c1,_⟩:=RdC.col hK.tb.tab.c hjl;obtain⟨c,hcj⟩:∃ c,t.cols[j]=c:=⟨_,rfl⟩;have hG:=pL hjl;rw[hcj] at c1 hG;have HG:=qAq hG;clear hK hcj hG;by_cases h1:c.kd=1
  ·have e1:(c.kd != 1)=false:=(by simp[h1]);have H1:=qAq h1;clear h1;go_wp2_with fail;go_roundg (n-j)
   case measure=>omega
   exact⟨j+1,by go_num,by omega,by omega,fun i hi=>by rcases (by omega:i<j∨i=j) with h|rfl;exact HI.out.1 i h;rw[HG.out,decide_eq_true (.inl H1.out)],HI.out.2⟩
  have e1:(c.kd != 1)=true:=(by simp[h1]);by_cases h2:c.kd=2
  ·have e2:(c.kd != 2)=false:=(by simp[h2]);have H2:=qAq h2;clear h1 h2;go_wp2_with fail;go_roundg (n-j)
   case measure=>omega
   exact⟨j+1,by go_num,by omega,by omega,fun i hi=>by rcases (by omega:i<j∨i=j) with h|rfl;exact HI.out.1 i h;rw[HG.out,decide_eq_true (.inr H2.out)],HI.out.2⟩
  have e2:(c.kd != 2)=true:=(by simp[h2]);have H2:Hid (¬ (c.kd=1∨c.kd=2)):=qAq (fun h=>h.elim h1 h2);clear h1 h2;go_wp2_with fail;go_ret;exact⟨aQ (by rw[HL2.out];unfold kindsGood;rw[bG j hjl (by rw[HG.out,decide_eq_false H2.out])];rfl),hB2.out▸HI.out.2.tb.below⟩
 have HL3:Hid (mayP ts t=firstErr (t.cols.map (leads ts))):=qAq (by rw[HL2.out];unfold kindsGood;rw[bY (fun i hi=>HI.out.1 i (by have:=HN.out.1;omega))];rfl);go_upto_region 10 with fail;clear u0 u2 u3 u4 hK;go_wp2_with fail;go_loopg [6] (n+1) (fun gh jv w=>∃ (j:Nat),jv=.int .i64 (j:Int)/\j<=n/\n+1<=j+gh/\(∀ i (h:i<t.cols.length),i<j->leads ts t.cols[i]=0)/\KeepR B W B t (.slice pc n cc) (.slice p nd cap) (.slice pv m capv) ts w)
 case atStart=>exact⟨0,rfl,Nat.zero_le _,by omega,fun i _ hi=>by omega,HI.out.2⟩
 obtain⟨i,rfl,hi,hg2,hno2,hK⟩:=hrel;have HI2:=qAq (qBq hno2 hK);clear hno2;obtain⟨u0,u1,u2,u3,u4⟩:=hK.tb.cells;by_cases hlt2:i<n
 ·have hil:i<t.cols.length:=(by rw[HN.out.1];exact hlt2);obtain⟨b,off,rfl,hbl,_,c1,_,c3⟩:=RdC.col hK.tb.tab.c hil;obtain⟨c,hcj⟩:∃ c,t.cols[i]=c:=⟨_,rfl⟩;rw[hcj] at c1 c3;have hii:(i:Int)<(n:Int):=by omega
  have hgo:leads ts c=0->∀ x (h:x<t.cols.length),x<i+1->leads ts t.cols[x]=0:=fun h0 x hx hxi=>by
   by_cases e:x=i
   ·subst e;rw[hcj];exact h0
   exact HI2.out.1 x hx (by omega)
  have hstop:leads ts c≠0->mayP ts t=leads ts c:=fun h0=>by
   have hml:i<(t.cols.map (leads ts)).length:=by rw[List.length_map];exact hil
   have:=fQ (t.cols.map (leads ts)) i hml (by rw[List.getElem_map,hcj];exact h0) (fun x hx=>by rw[List.getElem_map];exact HI2.out.1 x (by omega) hx)
   rw[HL3.out,this,List.getElem_map,hcj]
  have HGO:=qAq hgo;have HST:=qAq hstop;clear hgo hstop;cases hte:eqS c.tgt e0
  rotate_left
  ·have he:c.tgt.toList.isEmpty=true:=(by rw[dC];exact hte);have HGo:=qAq (HGO.out (by unfold leads;rw[hte];rfl));clear hK hcj hte;go_wp2_with fail;go_roundg (n-i)
   case measure=>omega
   exact⟨i+1,by go_num,by omega,by omega,HGo.out,HI2.out.2⟩
  have he:c.tgt.toList.isEmpty=false:=(by rw[dC];exact hte);have hfd:=cJ (x:=c.tgt) hK.ts;have hla:=aDm SM.out.2 c hte;clear hcj hte;rcases hla with ⟨h1,h2⟩ | ⟨k,hk,h1,h2⟩
  ·rw[h1] at hfd;have HG:Hid (mayP ts t=3):=qAq (by rw[HST.out (by rw[h2];decide),h2]);clear hK h1 h2;go_wp2_with (go_at_call 36;(with_reducible refine hfd.mono ?_);rintro e w2 ⟨rfl,hw2⟩;subst w2);go_ret;exact⟨aQ HG.out.symm,hB2.out▸HI2.out.2.tb.below⟩
  rw[h1] at hfd;obtain⟨vb,vo,cvk,dvk,rfl,hvb,k0,k1,k2,k3,hrt⟩:=RdTs.tab hK.ts hk;have hkm:k<m:=(by rw[<- HN.out.2.2];exact hk);obtain⟨tk,htk⟩:∃ x,ts[k]=x:=⟨_,rfl⟩;rw[htk] at k0 k2 hrt;simp only[htk] at h2;obtain⟨pk,ck,rfl,_,_⟩:=hrt.c.slice;obtain⟨pkd,ckd,rfl,_,_⟩:=hrt.d.slice;rcases h2 with ⟨h3,h4⟩ | ⟨h3,q,hq,h5,h6⟩
  ·have hke:tk.key.toList.isEmpty=true:=(by rw[dC];exact h3);have HG:Hid (mayP ts t=9):=qAq (by rw[HST.out (by rw[h4];decide),h4]);clear hK h1 h3 h4 hrt htk hk;go_wp2_with (go_at_call 36;(with_reducible refine hfd.mono ?_);rintro e w2 ⟨rfl,hw2⟩;subst w2);go_ret;exact⟨aQ HG.out.symm,hB2.out▸HI2.out.2.tb.below⟩
  have hke:tk.key.toList.isEmpty=false:=(by rw[dC];exact h3);obtain⟨kb,ko,rfl,hkb,_,g1,_,_⟩:=RdC.col hrt.c hq;have hco:=(fun (w:World) (hb:Below wr.heap.size wr w)=>bU (x:=tk.key) (hrt.later hb));rw[h5] at hco;obtain⟨lk,hlk⟩:∃ x,tk.cols.length=x:=⟨_,rfl⟩;obtain⟨lkd,hlkd⟩:∃ x,tk.deps.length=x:=⟨_,rfl⟩;obtain⟨kq,hkq⟩:∃ x,tk.cols[q]=x:=⟨_,rfl⟩;rw[hkq] at g1;simp only[hkq] at h6;rw[hlk] at hq;simp only[hlk,hlkd] at hco k1 k3;have HCO:=qAq hco;clear hco;have hqi:(q:Int)<(lk:Int):=(by omega);have hki:(k:Int)<(m:Int):=(by omega);clear hK h1 h3 h5 hrt htk hk hkq hlk hlkd hq;go_upto_region 19 with (go_at_call 36;(with_reducible refine hfd.mono ?_);rintro e w2 ⟨rfl,hw2⟩;subst w2);by_cases hkk:kq.kd=c.kd
  ·have HGo:=qAq (HGO.out (by rw[h6,if_pos hkk]));rw[hkk] at g1;clear h6 hkk;refine Par.wp_region_par 25 [.slice (some ⟨vb,vo,none⟩) m capv,.int .i64 k,.pointer (some ⟨vb,vo+k*4,none⟩),.pointer (some ⟨vb,vo+k*4+1,none⟩),.slice (some ⟨kb,ko,none⟩) lk ck,.slice (some ⟨vb,vo,none⟩) m capv,.int .i64 k,.pointer (some ⟨vb,vo+k*4,none⟩),.agg #[.string tk.nm,.slice (some ⟨kb,ko,none⟩) lk ck,.string tk.key,.slice pkd lkd ckd],.slice (some ⟨vb,vo,none⟩) m capv,.int .i64 k,.pointer (some ⟨vb,vo+k*4,none⟩),.pointer (some ⟨vb,vo+k*4+2,none⟩),.string tk.key,.int .i64 q,.pointer (some ⟨kb,ko+q*4,none⟩),.pointer (some ⟨kb,ko+q*4+1,none⟩),.int .i64 c.kd,.pointer (some ⟨B,1,none⟩),.slice (some ⟨b,off,none⟩) n cc,.int .i64 i,.pointer (some ⟨b,off+i*4,none⟩),.pointer (some ⟨b,off+i*4+1,none⟩),.int .i64 c.kd,.bool false] (fun w=>Below wr.heap.size wr w) ?A1 ?hm1 ?hB1 ?hA1 (aF wr) ?hop1 ?hT1
   case hm1=>kernel_rfl
   case hB1=>kernel_rfl
   case hA1 =>
    simp only[Par.putA,Par.dstAt,Act.put,qDq,qEq,qFq,qLq,qGq,qHq,qIq,qJq,qKq];rfl
   case hop1 =>
    simp only[qMq,List.take_zero,Par.GiveAll,and_true];and_intros<;>intro w' hR<;>have HR:=qAq hR
    rotate_left 4;have y:=aM hR k1;rotate_left 4;have y0:=aM hR k0;have y1:=aM hR k1;have y2:=aM hR k2;have y3:=aM hR k3;rotate_left 5;have y:=aM hR k2;rotate_left
    ·clear hR;simp only[Par.Gives];go_simp;exact (HCO.out w' HR.out).mono (fun e w'' ⟨he,hb⟩=>⟨he,aB HR.out hb⟩)
    rotate_left 2;have y:=aM hR g1;rotate_left 2;have y:=aM hR u2;rotate_left 4;have y:=aM hR c1;rotate_left 2
    all_goals(clear hR;simp only[Par.Gives];go_simp;all_goals exact HR.out)
   intro w' hR;simp only[qNq,List.drop_nil];go_wp2_with fail;go_roundg (n-i)
   case measure=>omega
   exact⟨i+1,by go_num,by omega,by omega,HGo.out,HI2.out.2.on hR⟩
  have HG:Hid (mayP ts t=4):=qAq (by rw[HST.out (by rw[h6,if_neg hkk];decide),h6,if_neg hkk]);clear h6;refine Par.wp_region_par 25 [.slice (some ⟨vb,vo,none⟩) m capv,.int .i64 k,.pointer (some ⟨vb,vo+k*4,none⟩),.pointer (some ⟨vb,vo+k*4+1,none⟩),.slice (some ⟨kb,ko,none⟩) lk ck,.slice (some ⟨vb,vo,none⟩) m capv,.int .i64 k,.pointer (some ⟨vb,vo+k*4,none⟩),.agg #[.string tk.nm,.slice (some ⟨kb,ko,none⟩) lk ck,.string tk.key,.slice pkd lkd ckd],.slice (some ⟨vb,vo,none⟩) m capv,.int .i64 k,.pointer (some ⟨vb,vo+k*4,none⟩),.pointer (some ⟨vb,vo+k*4+2,none⟩),.string tk.key,.int .i64 q,.pointer (some ⟨kb,ko+q*4,none⟩),.pointer (some ⟨kb,ko+q*4+1,none⟩),.int .i64 kq.kd,.pointer (some ⟨B,1,none⟩),.slice (some ⟨b,off,none⟩) n cc,.int .i64 i,.pointer (some ⟨b,off+i*4,none⟩),.pointer (some ⟨b,off+i*4+1,none⟩),.int .i64 c.kd,.bool true] (fun w=>Below wr.heap.size wr w) ?A2 ?hm2 ?hB2 ?hA2 (aF wr) ?hop2 ?hT2
  case hm2=>kernel_rfl
  case hB2=>kernel_rfl
  case hA2 =>
   simp only[Par.putA,Par.dstAt,Act.put,qDq,qEq,qFq,qLq,qGq,qHq,qIq,qJq,qKq];rfl
  case hop2 =>
   simp only[qMq,List.take_zero,Par.GiveAll,and_true];and_intros<;>intro w' hR<;>have HR:=qAq hR
   rotate_left 4;have y:=aM hR k1;rotate_left 4;have y0:=aM hR k0;have y1:=aM hR k1;have y2:=aM hR k2;have y3:=aM hR k3;rotate_left 5;have y:=aM hR k2;rotate_left
   ·clear hR;simp only[Par.Gives];go_simp;exact (HCO.out w' HR.out).mono (fun e w'' ⟨he,hb⟩=>⟨he,aB HR.out hb⟩)
   rotate_left 2;have y:=aM hR g1;rotate_left 2;have y:=aM hR u2;rotate_left 4;have y:=aM hR c1;rotate_left 2
   all_goals(clear hR;simp only[Par.Gives];go_simp;all_goals exact HR.out)
  intro w' hR;simp only[qNq,List.drop_nil];go_wp2_with fail;go_ret;exact⟨aQ HG.out.symm,hB2.out▸(HI2.out.2.on hR).tb.below⟩
 go_wp2_with fail;go_ret;exact⟨aQ (by rw[HL3.out];exact (eK _ (fun x hx=>by rw[List.getElem_map];rw[List.length_map] at hx;exact HI2.out.1 x hx (by have:=HN.out.1;omega))).symm),hB2.out▸HI2.out.2.tb.below⟩
section
variable {S:Nat} {W w w':World} {t:T} {cv dv:Value} {j:Nat}
end
def InR (W:World) (v:Value) (n k:Nat) (xs:List Value):Prop:=xs.length=n*k/\∃ p cap,v=.slice p n cap/\n<=cap/\cap<=maxLen/\(0<n->∃ b off,p=some ⟨b,off,none⟩/\b<W.heap.size/\∀ j u,xs[j]?=some u->W.cell? ⟨b,off+j,none⟩=some u)
def InC (W:World) (v:Value) (l:List C):Prop:=InR W v l.length 4 (cellsC l)
def InS (W:World) (v:Value) (l:List ByteArray):Prop:=InR W v l.length 1 (cellsS l)
def InD (W:World) (v:Value) (ds:List D):Prop:=∃ ps:List Value,ps.length=ds.length/\InR W v ds.length 2 (cellsD ps ds)/\∀ j (h:j<ps.length) (h':j<ds.length),InS W ps[j] ds[j].left
def InT (W:World) (cv dv:Value) (t:T):Prop:=InC W cv t.cols/\InD W dv t.deps
def InTs (W:World) (v:Value) (ts:List T):Prop:=∃ xs,InR W v ts.length 4 xs/\∀ j (h:j<ts.length),∃ cv dv,xs[j*4]?=some (.string ts[j].nm)/\xs[j*4+1]?=some cv/\xs[j*4+2]?=some (.string ts[j].key)/\xs[j*4+3]?=some dv/\InT W cv dv ts[j]
def cutBQ (m:Nat) (s:ByteArray):ByteArray:=if m<s.size then s.extract 0 m else s
def pathP (l:List ByteArray):List ByteArray:=(l.map (cutBQ 20)).take 6
structure TI (S TB:Nat) (W:World) (t:T) (cv dv:Value) (nm key:ByteArray) (cs:List C) (ds:List D) (cu du:Value) (ps:List Value) (w:World):Prop where
 src:w.heap[S]?=some (boxT t.nm cv t.key dv)
 res:w.heap[S+1]?=some (boxT e0 (.slice none 0 0) e0 (.slice none 0 0))
 box:w.heap[TB]?=some (boxT nm cu key du)
 c:HRow w (TB+1) 95 4 cu cs.length (cellsC cs)
 d:DepsI w (TB+1) du ds ps
 below:Below S W w
 hT:S+2<=TB
section
variable {S TB:Nat} {W w w':World} {t:T} {cv dv:Value} {nm key:ByteArray} {cs:List C} {ds:List D} {cu du:Value} {ps:List Value}
end
structure TR (B:Nat) (us:List T) (v:Value) (xs:List Value) (w:World):Prop where
 row:HRow w B 77 4 v us.length xs
 tabs:TabsC w xs us
 sz:B<=w.heap.size
section
variable {B:Nat} {w w':World} {us:List T} {v:Value} {xs:List Value}
end
