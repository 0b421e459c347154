import Derived.Test.YthlccadnojnkaaaGreatZk28
set_option maxHeartbeats 4000000
set_option maxRecDepth 100000
namespace Go.Proofs.YthlccadnojnkaaaGreat
open Go Go.RowKit Go.Proofs
variable {mv:Value}
def Sch (mv:Value) (W:World) (sb:Nat) (ts:List T):Prop:=ts.length<=8/\∃ xs rest,W.heap[sb]?=some (.cells (xs++(rest++[.int .i64 ts.length,mv])).toArray 122)/\xs.length+rest.length=32/\TabsC W xs ts
theorem Sch.later {W W':World} {sb:Nat} {ts:List T} (h:Sch mv W sb ts) (hb:Below W.heap.size W W'):Sch mv W' sb ts:=by
 obtain⟨h0,xs,rest,h1,h2,h3⟩:=h;exact⟨h0,xs,rest,aE hb h1,h2,h3.kp (.below hb)⟩
theorem Sch.num {W:World} {sb:Nat} {ts:List T} (h:Sch mv W sb ts):sb<W.heap.size/\W.cell? ⟨sb,32,none⟩=some (.int .i64 ts.length):=by
 obtain⟨h0,xs,rest,h1,h2,h3⟩:=h;refine⟨aC h1,?_⟩;rw[aA h1,List.getElem?_toArray,List.getElem?_append_right (by omega),List.getElem?_append_right (by omega),show 32-xs.length-rest.length=0 by omega];rfl
theorem Sch.tabs {W:World} {sb:Nat} {ts:List T} (h:Sch mv W sb ts):RdTs W (.slice (some ⟨sb,0,none⟩) ts.length 8) ts:=by
 obtain⟨h0,xs,rest,h1,h2,h3⟩:=h;refine⟨_,8,xs,rfl,h0,by unfold maxLen;omega,fun _=>⟨sb,0,rfl,aC h1,fun j u hj=>?_⟩,h3⟩;have hl:j<xs.length:=(List.getElem?_eq_some_iff.1 hj).1;rw[aA h1,Nat.zero_add,List.getElem?_toArray,List.getElem?_append_left hl];exact hj
def SchP (mv:Value) (W:World) (pv:Value) (ts:List T):Prop:=(pv=.pointer none/\ts=[])∨∃ sb,pv=(Value.pointer (some ⟨sb,0,none⟩))/\Sch mv W sb ts
theorem SchP.later {W W':World} {pv:Value} {ts:List T} (h:SchP mv W pv ts) (hb:Below W.heap.size W W'):SchP mv W' pv ts:=by
 rcases h with h|⟨sb,h1,h2⟩
 ·exact .inl h
 exact .inr ⟨sb,h1,h2.later hb⟩
theorem aFm (sb n:Nat) (h:n<=8) (w:World):(Instr.sliceAt 117 (Value.pointer (some ⟨sb,0,none⟩)) none (some (.int .i64 n)) none).run Tryz.prog w=.ok (.slice (some ⟨sb,0,none⟩) n 8) w:=by
 have hl:Tryz.prog.arrayLen 117=8:=(by kernel_rfl);have he:Tryz.prog.elem 117=77:=(by kernel_rfl);rw[run_sliceAt_array_h w 117 ⟨sb,0,none⟩ (by kernel_rfl) .i64 (n:Int) (by omega) (by rw[hl];omega),hl,he];go_simp
theorem pM {pv:Value} {ts:List T} {W:World} (h:SchP mv W pv ts):Calls Tryz.prog 79 #[pv] W fun e w'=>∃ v,e=.returned v/\RdTs w' v ts/\Below W.heap.size W w':=by
 rcases h with ⟨rfl,rfl⟩ | ⟨sb,rfl,h⟩
 ·go_enter Tryz.func79,Tryz.ntmps79;go_wp2_with fail;go_ret;exact⟨_,rfl,RdTs.nil W,Below.refl _ _⟩
 have HS:=qAq h;have h8:=h.1;obtain⟨n,hn⟩:∃ n,ts.length=n:=⟨_,rfl⟩;rw[hn] at h8;have HN:=qAq hn;clear h hn;go_enter Tryz.func79,Tryz.ntmps79;go_upto_region 3 with fail;refine Par.wp_region_par 9 [.pointer (some ⟨sb,0,none⟩),.pointer (some ⟨sb,0,none⟩),.pointer (some ⟨sb,0,none⟩),.pointer (some ⟨sb,0,none⟩),.pointer (some ⟨sb,0,none⟩),.pointer (some ⟨sb,32,none⟩),.int .i64 n,.slice (some ⟨sb,0,none⟩) n 8,.slice (some ⟨sb,0,none⟩) n 8] (fun w=>Sch mv w sb ts/\Below W.heap.size W w) ?A1 ?hm1 ?hB1 ?hA1 (⟨HS.out.later (aG W 1),aG W 1⟩) ?hop1 ?hT1
 case hm1=>kernel_rfl
 case hB1=>kernel_rfl
 case hA1 =>
  simp only[Par.putA,Par.dstAt,Act.put,qDq,qEq,qFq,qLq,qGq,qHq,qIq,qJq,qKq];rfl
 case hop1 =>
  simp only[qMq,List.take_zero,Par.GiveAll,and_true];and_intros<;>intro w' hR<;>have HR:=qAq hR
  rotate_left 6;have k:=HN.out▸hR.1.num.2;rotate_left;have k:=aFm sb n h8 w';rotate_left 2
  all_goals(clear hR;simp only[Par.Gives];go_simp;all_goals exact HR.out)
 intro w' hR;simp only[qNq,List.drop_nil];go_wp2_with fail;go_ret;exact⟨_,rfl,HN.out▸hR.1.tabs,hR.2⟩
theorem aAb {x:World} {b:Nat} {cur:Array Value} {e:TypeId} (h:x.heap[b]?=some (.cells cur e)) (he:mt e=true) (a c d f:Value):Kp x ((((x.setCell ⟨b,0,none⟩ a).setCell ⟨b,1,none⟩ c).setCell ⟨b,2,none⟩ d).setCell ⟨b,3,none⟩ f):=by
 intro q cur' e' m hq h1 h2
 have hne:q≠b:=by
  rintro rfl;rw[h] at hq;cases hq;rw[he] at h2;cases h2
 have hs:∀ (y:World) (i:Nat) (u:Value),(y.setCell ⟨b,i,none⟩ u).heap[q]?=y.heap[q]?:=(fun y i u=>heap_setCell_other y ⟨b,i,none⟩ q u hne);rw[hs,hs,hs,hs];exact hq
def GivesT (t:T) (ok:Bool) (W:World) (e:Ending) (w':World):Prop:=∃ p1 n1 c1 p2 n2 c2,e=.returned (.tuple #[.agg #[.string t.nm,.slice p1 n1 c1,.string t.key,.slice p2 n2 c2],.bool ok])/\RdT w' (.slice p1 n1 c1) (.slice p2 n2 c2) t/\Below W.heap.size W w'
theorem gH {pv:Value} {ts:List T} {x:ByteArray} {W:World} (h:SchP mv W pv ts):Calls Tryz.prog 80 #[pv,.string x] W (GivesT (orT (findT ts x)) (hasT ts x) W):=by
 obtain⟨S,hS⟩:∃ S,W.heap.size=S:=⟨_,rfl⟩;have hB0:=aD W (boxT e0 (.slice none 0 0) e0 (.slice none 0 0));have h0:=heap_alloc_new W (boxT e0 (.slice none 0 0) e0 (.slice none 0 0));have hz:(W.alloc (boxT e0 (.slice none 0 0) e0 (.slice none 0 0))).heap.size=S+1:=(by rw[World.size_alloc,hS]);have hth:=pM (h.later hB0);obtain⟨w0,hw0⟩:∃ w0,W.alloc (boxT e0 (.slice none 0 0) e0 (.slice none 0 0))=w0:=⟨_,rfl⟩;rw[hw0] at hB0 h0 hth hz;rw[hS] at h0;have HB:=qAq (qBq hB0 (qBq h0 (qBq hz hS)));clear h hB0 h0 hz;have HW:=qAq hw0;have HS:=qAq hS;clear hw0 hS;go_enter Tryz.func80,Tryz.ntmps80;go_upto_region 1 with fail;rw[HW.out,HS.out];go_wp2_with (go_at_call 79;(with_reducible refine hth.mono ?_);rintro e w1 ⟨v,rfl,hr,hb⟩;clear hth;obtain⟨p,cap,hv,hc,hm⟩:=hr.slice;obtain⟨n,hn⟩:∃ n,ts.length=n:=⟨_,rfl⟩;rw[hn] at hv hc;subst hv;have H1:=qAq (qBq hr (qBq hb hn));clear hr hb hn);unfold maxLen at hm;go_loopg [11] (n+1) (fun gh jv w=>∃ (j:Nat),jv=.int .i64 (j:Int)/\j<=n/\n+1<=j+gh/\(∀ i (h:i<ts.length),i<j->isT x ts[i]=false)/\Below w1.heap.size w1 w)
 case atStart=>exact⟨0,rfl,Nat.zero_le _,by omega,fun i _ hi=>by omega,Below.refl _ _⟩
 obtain⟨j,rfl,hj,hg,hno,hB⟩:=hrel;have hres:=aE hB (aE H1.out.2.1 HB.out.2.1);have hBW:Below W.heap.size W wr:=aB (aB HB.out.1 H1.out.2.1) hB;have hrw:RdTs wr (.slice p n cap) ts:=H1.out.1.later hB;have HI:=qAq (qBq hno (qBq hB hBW));have hWS:W.heap.size<=S:=Nat.le_of_eq HB.out.2.2.2;clear hno hB hBW;by_cases hlt:j<n
 ·have hjl:j<ts.length:=(by rw[H1.out.2.2];exact hlt);obtain⟨b,off,cv,dv,rfl,hb,c0,c1,c2,c3,hrt⟩:=RdTs.tab hrw hjl;obtain⟨t,htj⟩:∃ t,ts[j]=t:=⟨_,rfl⟩;rw[htj] at c0 c2 hrt;obtain⟨p1,cp1,rfl,_,_⟩:=hrt.1.slice;obtain⟨p2,cp2,rfl,_,_⟩:=hrt.2.slice;generalize hm1:t.cols.length=m1 at *;generalize hm2:t.deps.length=m2 at *;have HT:=qAq (qBq htj hrt);clear htj hrt hrw hm1 hm2;cases hx:isT x t
  ·have HX:=qAq hx;have hx2:(t.nm.toList==x.toList)=false:=(by rw[aR];exact hx);clear hx hres;go_wp2_with fail;go_roundg (n-j)
   case measure=>omega
   refine⟨j+1,by go_num,by omega,by omega,fun i hi hij=>?_,HI.out.2.1.alloc HI.out.2.1.size _⟩;by_cases e:i=j
   ·subst e;rw[HT.out.1];exact HX.out
   exact HI.out.1 i hi (by omega)
  have HX:=qAq hx;have hx2:(t.nm.toList==x.toList)=true:=(by rw[aR];exact hx);have z0:=aA hres 0;have z1:=aA hres 1;have z2:=aA hres 2;have z3:=aA hres 3;have zf:∀ i,wr.frozen? ⟨S,i,none⟩=false:=(fun i=>frozen_of_row wr S i _ _ hres);have hlS:S<wr.heap.size:=aC hres;have HZ:=qAq hres;clear hx hres;go_wp2_with fail;have hS4:=dH (u:=boxT t.nm (.slice p1 m1 cp1) t.key (.slice p2 m2 cp2)) (set4 HZ.out (.string t.nm) (.slice p1 m1 cp1) (.string t.key) (.slice p2 m2 cp2));have hBx:=bD HI.out.2.2 hWS (.string t.nm) (.slice p1 m1 cp1) (.string t.key) (.slice p2 m2 cp2);have hBy:=hBx.alloc hBx.size (boxT t.nm (.slice p1 m1 cp1) t.key (.slice p2 m2 cp2));have hKp:Kp wr (((((wr.setCell _ _).setCell _ _).setCell _ _).setCell _ _).alloc (boxT t.nm (.slice p1 m1 cp1) t.key (.slice p2 m2 cp2))):=(aAb HZ.out rfl (.string t.nm) (.slice p1 m1 cp1) (.string t.key) (.slice p2 m2 cp2)).trans (.below (aD _ _));generalize ((((wr.setCell _ _).setCell _ _).setCell _ _).setCell _ _).alloc _=wz at hS4 hBy hKp ⊢;have y0:=aA hS4 0;have y1:=aA hS4 1;have y2:=aA hS4 2;have y3:=aA hS4 3;obtain⟨f1,f2,_⟩:=eN (p:=isT x) ts j (by rw[H1.out.2.2];exact hlt) (by rw[HT.out.1];exact HX.out) (fun i hi=>HI.out.1 i _ hi);refine bodyPost_ret (v:=.tuple #[.agg #[.string t.nm,(.slice p1 m1 cp1),.string t.key,(.slice p2 m2 cp2)],.bool true]) (by simp[results,Tryz.results80,go_sem,y0,y1,y2,y3]) rfl ?_;have e1:orT (findT ts x)=t:=(by unfold orT findT;rw[f1,HT.out.1];rfl);have e2:hasT ts x=true:=f2;rw[e1,e2];exact⟨_,_,_,_,_,_,rfl,HT.out.2.kp hKp,hBy⟩
 have z0:=aA hres 0;have z1:=aA hres 1;have z2:=aA hres 2;have z3:=aA hres 3;have zf:∀ i,wr.frozen? ⟨S,i,none⟩=false:=(fun i=>frozen_of_row wr S i _ _ hres);have hlS:S<wr.heap.size:=aC hres;have HZ:=qAq hres;clear hres hrw;go_wp2_with fail;have hS4:=set4 HZ.out (.string e0) (.slice none 0 0) (.string e0) (.slice none 0 0);have hBx:=bD HI.out.2.2 hWS (.string e0) (.slice none 0 0) (.string e0) (.slice none 0 0);generalize (((wr.setCell _ _).setCell _ _).setCell _ _).setCell _ _=wz at hS4 hBx ⊢;have y0:=aA hS4 0;have y1:=aA hS4 1;have y2:=aA hS4 2;have y3:=aA hS4 3;obtain⟨f1,f2,_⟩:=iZ (p:=isT x) ts (fun i hi=>HI.out.1 i hi (by have:=H1.out.2.2;omega));refine bodyPost_ret (v:=.tuple #[.agg #[.string e0,(.slice none 0 0),.string e0,(.slice none 0 0)],.bool false]) (by simp[results,Tryz.results80,go_sem,y0,y1,y2,y3]) rfl ?_;have e1:orT (findT ts x)=zeroT:=(by unfold orT findT;rw[f1];rfl);have e2:hasT ts x=false:=f2;rw[e1,e2];exact⟨_,_,_,_,_,_,rfl,sT _,hBx⟩
theorem dK (ts:List T) (x:ByteArray):hasT ts x=(findT ts x).isSome:=jZ ts
theorem pN (l:List C) (x:ByteArray):hasC l x=(colOf l x).isSome:=jZ l
theorem aBz {pv:Value} {ts:List T} {x:ByteArray} {W:World} (h:SchP mv W pv ts) (hs:x.size<=maxLen):Calls Tryz.prog 137 #[pv,.string x] W fun e w'=>e=.returned (.bool (free ts x))/\Below W.heap.size W w':=by
 have hf:=gH (x:=x) h;cases hn:named x
 ·have HG:Hid (free ts x=false):=qAq (by unfold free;rw[hn];rfl);have hv:=(fun w=>dW hn w hs);generalize hasT ts x=ok at hf;generalize orT (findT ts x)=t at hf;clear h hs hn;go_enter Tryz.func137,Tryz.ntmps137
  go_wp2_with (first
   | (go_at_call 80;(with_reducible refine hf.mono ?_);rintro e w1 ⟨p1,n1,c1,p2,n2,c2,rfl,hr,hb⟩)
   | (go_at_call 160;(with_reducible refine (hv _).mono ?_);rintro e w2 ⟨rfl,rfl⟩))
  go_ret;exact⟨aH HG.out.symm,hb.alloc hb.size _⟩
 have hv:=(fun w=>dW hn w hs);have HG:Hid (free ts x=!hasT ts x):=qAq (by unfold free;rw[hn];rfl);generalize hasT ts x=ok at hf HG;generalize orT (findT ts x)=t at hf;clear h hs hn;go_enter Tryz.func137,Tryz.ntmps137
 go_wp2_with (first
  | (go_at_call 80;(with_reducible refine hf.mono ?_);rintro e w1 ⟨p1,n1,c1,p2,n2,c2,rfl,hr,hb⟩)
  | (go_at_call 160;(with_reducible refine (hv _).mono ?_);rintro e w2 ⟨rfl,rfl⟩))
 go_ret;exact⟨aH HG.out.symm,hb.alloc hb.size _⟩
theorem aBA {pv:Value} {ts:List T} {c:C} {W:World} (h:SchP mv W pv ts):Calls Tryz.prog 142 #[pv,.agg #[.string c.nm,.int .i64 c.kd,.bool c.mu,.string c.tgt]] W fun e w'=>e=.returned (.int .i64 (leads ts c))/\Below W.heap.size W w':=by
 have hB0:=aD W (.cells #[.string c.nm,.int .i64 c.kd,.bool c.mu,.string c.tgt] 95);have h0:=heap_alloc_new W (.cells #[.string c.nm,.int .i64 c.kd,.bool c.mu,.string c.tgt] 95);have hf:=gH (x:=c.tgt) (h.later hB0);cases he:eqS c.tgt e0
 ·have he2:c.tgt.toList.isEmpty=false:=(by rw[dC];exact he);obtain⟨S,hS⟩:∃ S,W.heap.size=S:=⟨_,rfl⟩;have HS:=qAq hS;obtain⟨w0,hw0⟩:∃ w0,W.alloc (.cells #[.string c.nm,.int .i64 c.kd,.bool c.mu,.string c.tgt] 95)=w0:=⟨_,rfl⟩;rw[hw0] at hB0 h0 hf;rw[hS] at h0;have HB:=qAq (qBq hB0 h0);have HW:=qAq hw0;have y3:=aA h0 3;have hl0:=aC h0;rw[dK] at hf;have HF:=qAq he;clear h hB0 h0 hw0 hS he;cases hfind:findT ts c.tgt with
  | none =>
   rw[hfind] at hf;have HG:Hid (leads ts c=3):=qAq (by unfold leads;rw[HF.out,hfind];rfl);change Calls _ _ _ _ (GivesT zeroT false _) at hf;generalize zeroT=t at hf;go_enter Tryz.func142,Tryz.ntmps142;go_upto_region 1 with fail;rw[HW.out,HS.out];go_wp2_with (go_at_call 80;(with_reducible refine hf.mono ?_);rintro e w1 ⟨p1,n1,c1,p2,n2,c2,rfl,hr,hb⟩);go_ret;exact⟨aQ HG.out.symm,(aB HB.out.1 hb).alloc (aB HB.out.1 hb).size _⟩
  | some t =>
   rw[hfind] at hf;change Calls _ _ _ _ (GivesT t true _) at hf;have hcol:=(fun (w:World) (v:Value) (hr:RdC w v t.cols)=>iH (x:=t.key) hr);rw[pN] at hcol;cases hcf:colOf t.cols t.key with
   | none =>
    have HG:Hid (leads ts c=9):=qAq (by unfold leads;rw[HF.out,hfind];show (match colOf t.cols t.key with|none=>(9:Int) | some k=>if k.kd=c.kd then 0 else 4)=9;rw[hcf]);simp only[hcf] at hcol;change ∀ (w:World) (v:Value),RdC w v t.cols->Calls _ _ _ _ (fun e w'=>e=.returned (.tuple #[.agg #[.string zeroC.nm,.int .i64 zeroC.kd,.bool zeroC.mu,.string zeroC.tgt],.bool false])/\_) at hcol;generalize zeroC=k at hcol;clear hcf hfind;go_enter Tryz.func142,Tryz.ntmps142;go_upto_region 1 with fail;rw[HW.out,HS.out]
    go_wp2_with (first
     | (go_at_call 80;(with_reducible refine hf.mono ?_);rintro e w1 ⟨p1,n1,c1,p2,n2,c2,rfl,hr,hb⟩;have hr1:=hr.1.later (aD w1 (boxT t.nm (.slice p1 n1 c1) t.key (.slice p2 n2 c2)));have hb1:=(aB HB.out.1 hb).alloc (aB HB.out.1 hb).size (boxT t.nm (.slice p1 n1 c1) t.key (.slice p2 n2 c2)))
     | (go_at_call 155;(with_reducible refine (hcol _ _ hr1).mono ?_);rintro e w2 ⟨rfl,hb2⟩;have hb3:=aB hb1 hb2))
    go_ret;exact⟨aQ HG.out.symm,hb3.alloc hb3.size _⟩
   | some k =>
    have HG:Hid (leads ts c=if k.kd=c.kd then 0 else 4):=qAq (by unfold leads;rw[HF.out,hfind];show (match colOf t.cols t.key with|none=>(9:Int) | some k=>if k.kd=c.kd then 0 else 4)=_;rw[hcf]);simp only[hcf] at hcol;change ∀ (w:World) (v:Value),RdC w v t.cols->Calls _ _ _ _ (fun e w'=>e=.returned (.tuple #[.agg #[.string k.nm,.int .i64 k.kd,.bool k.mu,.string k.tgt],.bool true])/\_) at hcol;clear hcf hfind
    have h3:∀ {w1 w2:World} {o:Obj},Below w0.heap.size w0 w1->Below (w1.alloc o).heap.size (w1.alloc o) w2->S<w2.heap.size/\w2.cell? ⟨S,1,none⟩=some (.int .i64 c.kd):=fun {w1 w2 o} ha hb=>by
     have:=aE hb (aE (aD w1 o) (aE ha HB.out.2))
     exact⟨aC this,aA this 1⟩
    by_cases hk:k.kd=c.kd
    ·have e4:(k.kd != c.kd)=false:=(by simp[hk]);rw[if_pos hk] at HG;clear hk;go_enter Tryz.func142,Tryz.ntmps142;go_upto_region 1 with fail;rw[HW.out,HS.out]
     go_wp2_with (first
      | (go_at_call 80;(with_reducible refine hf.mono ?_);rintro e w1 ⟨p1,n1,c1,p2,n2,c2,rfl,hr,hb⟩;have hr1:=hr.1.later (aD w1 (boxT t.nm (.slice p1 n1 c1) t.key (.slice p2 n2 c2)));have hb1:=(aB HB.out.1 hb).alloc (aB HB.out.1 hb).size (boxT t.nm (.slice p1 n1 c1) t.key (.slice p2 n2 c2)))
      | (go_at_call 155;(with_reducible refine (hcol _ _ hr1).mono ?_);rintro e w2 ⟨rfl,hb2⟩;obtain⟨z0,z1⟩:=h3 hb hb2;have hb3:=aB hb1 hb2))
     go_ret;exact⟨aQ HG.out.symm,hb3.alloc hb3.size _⟩
    ·have e4:(k.kd != c.kd)=true:=(by simp[hk]);rw[if_neg hk] at HG;clear hk;go_enter Tryz.func142,Tryz.ntmps142;go_upto_region 1 with fail;rw[HW.out,HS.out]
     go_wp2_with (first
      | (go_at_call 80;(with_reducible refine hf.mono ?_);rintro e w1 ⟨p1,n1,c1,p2,n2,c2,rfl,hr,hb⟩;have hr1:=hr.1.later (aD w1 (boxT t.nm (.slice p1 n1 c1) t.key (.slice p2 n2 c2)));have hb1:=(aB HB.out.1 hb).alloc (aB HB.out.1 hb).size (boxT t.nm (.slice p1 n1 c1) t.key (.slice p2 n2 c2)))
      | (go_at_call 155;(with_reducible refine (hcol _ _ hr1).mono ?_);rintro e w2 ⟨rfl,hb2⟩;obtain⟨z0,z1⟩:=h3 hb hb2;have hb3:=aB hb1 hb2))
     go_ret;exact⟨aQ HG.out.symm,hb3.alloc hb3.size _⟩
 have he2:c.tgt.toList.isEmpty=true:=(by rw[dC];exact he);have HG:Hid (leads ts c=0):=qAq (by unfold leads;rw[he];rfl);clear h hf h0 he;go_enter Tryz.func142,Tryz.ntmps142;go_wp2_with fail;go_ret;exact⟨aQ HG.out.symm,hB0⟩
structure KeepM (mv:Value) (B:Nat) (W0:World) (S0:Nat) (t:T) (cv dv:Value) (sb:Nat) (ts:List T) (w:World):Prop where
 tb:KeepT B W0 S0 t cv dv w
 sch:Sch mv w sb ts
theorem KeepM.on {B:Nat} {W0:World} {S0:Nat} {t:T} {cv dv:Value} {sb:Nat} {ts:List T} {w w':World} (h:KeepM mv B W0 S0 t cv dv sb ts w) (hb:Below w.heap.size w w'):KeepM mv B W0 S0 t cv dv sb ts w':=⟨h.tb.on hb,h.sch.later hb⟩
theorem Sch.p {W:World} {sb:Nat} {ts:List T} (h:Sch mv W sb ts):SchP mv W (Value.pointer (some ⟨sb,0,none⟩)) ts:=.inr ⟨sb,rfl,h⟩
theorem fG {t:T} {cv dv:Value} {W:World} {b:Bool} (h:RdT W cv dv t) (hb:fitsB t=b):Calls Tryz.prog 136 #[.agg #[.string t.nm,cv,.string t.key,dv]] W fun e w'=>e=.returned (.bool b)/\Below W.heap.size W w':=hb▸aDf h
theorem gI {pv:Value} {ts:List T} {x:ByteArray} {W:World} {b:Bool} (h:SchP mv W pv ts) (hs:x.size<=maxLen) (hb:free ts x=b):Calls Tryz.prog 137 #[pv,.string x] W fun e w'=>e=.returned (.bool b)/\Below W.heap.size W w':=hb▸aBz h hs
theorem cE {l:List C} {v:Value} {W:World} {b:Bool} (h:RdC W v l) (hs:SmC l) (hb:colsGood l=b):Calls Tryz.prog 138 #[v] W fun e w'=>e=.returned (.bool b)/\Below W.heap.size W w':=hb▸oW h hs
theorem eG {t:T} {cv dv:Value} {W:World} {b:Bool} (h:RdT W cv dv t) (hb:keyGood t=b):Calls Tryz.prog 139 #[.agg #[.string t.nm,cv,.string t.key,dv]] W fun e w'=>e=.returned (.bool b)/\Below W.heap.size W w':=hb▸rG h
theorem fH {t:T} {cv dv:Value} {W:World} {b:Bool} (h:RdT W cv dv t) (hb:depsGood t.cols t.deps=b):Calls Tryz.prog 140 #[.agg #[.string t.nm,cv,.string t.key,dv]] W fun e w'=>e=.returned (.bool b)/\Below W.heap.size W w':=hb▸oY h
theorem tN {l:List C} {v:Value} {W:World} {b:Bool} (h:RdC W v l) (hb:kindsGood l=b):Calls Tryz.prog 141 #[v] W fun e w'=>e=.returned (.bool b)/\Below W.heap.size W w':=hb▸xJ h
theorem aDg {ts:List T} {t:T} (h:ts.length<=8):lim ts t=(decide (ts.length=8) || !fitsB t):=by
 unfold lim fitsB;rw[Bool.eq_iff_iff];simp only[Bool.or_eq_true,decide_eq_true_eq,Bool.not_eq_true',Bool.and_eq_false_iff,decide_eq_false_iff_not];omega
theorem aDh {t:T} {cv dv:Value} {sb:Nat} {ts:List T} {W:World} (h:RdT W cv dv t) (hs:Sch mv W sb ts) (hsm:SmQ t):Calls Tryz.prog 102 #[.pointer (some ⟨sb,0,none⟩),.agg #[.string t.nm,cv,.string t.key,dv]] W fun e w'=>e=.returned (.int .i64 (mayP ts t))/\Below W.heap.size W w':=by
 have K0:=qAq (show KeepM mv W.heap.size W W.heap.size t cv dv sb ts _ from ⟨KeepT.new h,hs.later (aD W (boxT t.nm cv t.key dv))⟩);obtain⟨pc,cc,hcv,hc1,hc2⟩:=h.1.slice;obtain⟨p,cap,hdv,_,_⟩:=h.2.slice;obtain⟨n,hn⟩:∃ n,t.cols.length=n:=⟨_,rfl⟩;obtain⟨nd,hnd⟩:∃ n,t.deps.length=n:=⟨_,rfl⟩;obtain⟨B,hB⟩:∃ B,W.heap.size=B:=⟨_,rfl⟩;unfold maxLen at hc2;rw[hnd] at hdv;rw[hn] at hcv hc1;subst hcv hdv;rw[hB] at K0;have HB:=qAq hB;have HN:=qAq hn;have SM:=qAq (qBq hsm.1 hsm.2);have hl8:=hs.1;obtain⟨m,hm⟩:∃ m,ts.length=m:=⟨_,rfl⟩;have hlim:=aDg (t:=t) hl8;rw[hm] at hl8 hlim;clear h hs hsm hn hnd hB;go_enter Tryz.func102,Tryz.ntmps102;go_upto_region 1 with fail;obtain⟨w0,hw0⟩:∃ w0,W.alloc (boxT t.nm (.slice pc n cc) t.key (.slice p nd cap))=w0:=⟨_,rfl⟩;rw[HB.out,hw0];rw[hw0] at K0;clear hw0;obtain⟨u00,u01,u02,u03,u04⟩:=K0.out.tb.cells;obtain⟨v0,v1⟩:=K0.out.sch.num;rw[hm] at v1;clear hm;by_cases hm8:m=8
 ·have hb8:((m:Int)==8)=true:=beq_iff_eq.2 (by omega);have HG:Hid (mayP ts t=5):=qAq (by unfold mayP;rw[hlim,decide_eq_true hm8];rfl);clear hlim hm8;go_wp2_with fail;go_ret;exact⟨aQ HG.out.symm,HB.out▸K0.out.tb.below⟩
 have hb8:((m:Int)==8)=false:=beq_eq_false_iff_ne.2 (by omega);rw[decide_eq_false hm8,Bool.false_or] at hlim;clear hm8 hl8;cases hf1:fitsB t
 ·have HG:Hid (mayP ts t=5):=qAq (by unfold mayP;rw[hlim,hf1];rfl);clear hlim
  go_wp2_with (first
   | (go_at_call 136;(with_reducible refine (fG K0.out.tb.tab hf1).mono ?_);rintro e w1 ⟨rfl,hb1⟩;have K1:=qAq (K0.out.on hb1);obtain⟨u10,u11,u12,u13,u14⟩:=K1.out.tb.cells;clear hb1))
  go_ret;exact⟨aQ (HG.out.symm),HB.out▸K1.out.tb.below⟩
 have HL:Hid (mayP ts t=if namesGood ts t=true then (if kindsGood t.cols=true then firstErr (t.cols.map (leads ts)) else 4) else 3):=qAq (by unfold mayP;rw[hlim,hf1];rfl);clear hlim;cases hf2:free ts t.nm
 ·have HG:Hid (mayP ts t=3):=qAq (by rw[HL.out];unfold namesGood;rw[hf2];rfl)
  go_wp2_with (first
   | (go_at_call 136;(with_reducible refine (fG K0.out.tb.tab hf1).mono ?_);rintro e w1 ⟨rfl,hb1⟩;have K1:=qAq (K0.out.on hb1);obtain⟨u10,u11,u12,u13,u14⟩:=K1.out.tb.cells;clear hb1)
   | (go_at_call 137;(with_reducible refine (gI K1.out.sch.p SM.out.1 hf2).mono ?_);rintro e w2 ⟨rfl,hb2⟩;have K2:=qAq (K1.out.on hb2);obtain⟨u20,u21,u22,u23,u24⟩:=K2.out.tb.cells;clear hb2))
  go_ret;exact⟨aQ (HG.out.symm),HB.out▸K2.out.tb.below⟩
 cases hf3:colsGood t.cols
 ·have HG:Hid (mayP ts t=3):=qAq (by rw[HL.out];unfold namesGood;rw[hf2,hf3];rfl)
  go_wp2_with (first
   | (go_at_call 136;(with_reducible refine (fG K0.out.tb.tab hf1).mono ?_);rintro e w1 ⟨rfl,hb1⟩;have K1:=qAq (K0.out.on hb1);obtain⟨u10,u11,u12,u13,u14⟩:=K1.out.tb.cells;clear hb1)
   | (go_at_call 137;(with_reducible refine (gI K1.out.sch.p SM.out.1 hf2).mono ?_);rintro e w2 ⟨rfl,hb2⟩;have K2:=qAq (K1.out.on hb2);obtain⟨u20,u21,u22,u23,u24⟩:=K2.out.tb.cells;clear hb2)
   | (go_at_call 138;(with_reducible refine (cE K2.out.tb.tab.c SM.out.2 hf3).mono ?_);rintro e w3 ⟨rfl,hb3⟩;have K3:=qAq (K2.out.on hb3);obtain⟨u30,u31,u32,u33,u34⟩:=K3.out.tb.cells;clear hb3))
  go_ret;exact⟨aQ (HG.out.symm),HB.out▸K3.out.tb.below⟩
 cases hf4:keyGood t
 ·have HG:Hid (mayP ts t=3):=qAq (by rw[HL.out];unfold namesGood;rw[hf2,hf3,hf4];rfl)
  go_wp2_with (first
   | (go_at_call 136;(with_reducible refine (fG K0.out.tb.tab hf1).mono ?_);rintro e w1 ⟨rfl,hb1⟩;have K1:=qAq (K0.out.on hb1);obtain⟨u10,u11,u12,u13,u14⟩:=K1.out.tb.cells;clear hb1)
   | (go_at_call 137;(with_reducible refine (gI K1.out.sch.p SM.out.1 hf2).mono ?_);rintro e w2 ⟨rfl,hb2⟩;have K2:=qAq (K1.out.on hb2);obtain⟨u20,u21,u22,u23,u24⟩:=K2.out.tb.cells;clear hb2)
   | (go_at_call 138;(with_reducible refine (cE K2.out.tb.tab.c SM.out.2 hf3).mono ?_);rintro e w3 ⟨rfl,hb3⟩;have K3:=qAq (K2.out.on hb3);obtain⟨u30,u31,u32,u33,u34⟩:=K3.out.tb.cells;clear hb3)
   | (go_at_call 139;(with_reducible refine (eG K3.out.tb.tab hf4).mono ?_);rintro e w4 ⟨rfl,hb4⟩;have K4:=qAq (K3.out.on hb4);obtain⟨u40,u41,u42,u43,u44⟩:=K4.out.tb.cells;clear hb4))
  go_ret;exact⟨aQ (HG.out.symm),HB.out▸K4.out.tb.below⟩
 cases hf5:depsGood t.cols t.deps
 ·have HG:Hid (mayP ts t=3):=qAq (by rw[HL.out];unfold namesGood;rw[hf2,hf3,hf4,hf5];rfl)
  go_wp2_with (first
   | (go_at_call 136;(with_reducible refine (fG K0.out.tb.tab hf1).mono ?_);rintro e w1 ⟨rfl,hb1⟩;have K1:=qAq (K0.out.on hb1);obtain⟨u10,u11,u12,u13,u14⟩:=K1.out.tb.cells;clear hb1)
   | (go_at_call 137;(with_reducible refine (gI K1.out.sch.p SM.out.1 hf2).mono ?_);rintro e w2 ⟨rfl,hb2⟩;have K2:=qAq (K1.out.on hb2);obtain⟨u20,u21,u22,u23,u24⟩:=K2.out.tb.cells;clear hb2)
   | (go_at_call 138;(with_reducible refine (cE K2.out.tb.tab.c SM.out.2 hf3).mono ?_);rintro e w3 ⟨rfl,hb3⟩;have K3:=qAq (K2.out.on hb3);obtain⟨u30,u31,u32,u33,u34⟩:=K3.out.tb.cells;clear hb3)
   | (go_at_call 139;(with_reducible refine (eG K3.out.tb.tab hf4).mono ?_);rintro e w4 ⟨rfl,hb4⟩;have K4:=qAq (K3.out.on hb4);obtain⟨u40,u41,u42,u43,u44⟩:=K4.out.tb.cells;clear hb4)
   | (go_at_call 140;(with_reducible refine (fH K4.out.tb.tab hf5).mono ?_);rintro e w5 ⟨rfl,hb5⟩;have K5:=qAq (K4.out.on hb5);obtain⟨u50,u51,u52,u53,u54⟩:=K5.out.tb.cells;clear hb5))
  go_ret;exact⟨aQ (HG.out.symm),HB.out▸K5.out.tb.below⟩
 cases hf6:kindsGood t.cols
 ·have HG:Hid (mayP ts t=4):=qAq (by rw[HL.out];unfold namesGood;rw[hf2,hf3,hf4,hf5,hf6];rfl)
  go_wp2_with (first
   | (go_at_call 136;(with_reducible refine (fG K0.out.tb.tab hf1).mono ?_);rintro e w1 ⟨rfl,hb1⟩;have K1:=qAq (K0.out.on hb1);obtain⟨u10,u11,u12,u13,u14⟩:=K1.out.tb.cells;clear hb1)
   | (go_at_call 137;(with_reducible refine (gI K1.out.sch.p SM.out.1 hf2).mono ?_);rintro e w2 ⟨rfl,hb2⟩;have K2:=qAq (K1.out.on hb2);obtain⟨u20,u21,u22,u23,u24⟩:=K2.out.tb.cells;clear hb2)
   | (go_at_call 138;(with_reducible refine (cE K2.out.tb.tab.c SM.out.2 hf3).mono ?_);rintro e w3 ⟨rfl,hb3⟩;have K3:=qAq (K2.out.on hb3);obtain⟨u30,u31,u32,u33,u34⟩:=K3.out.tb.cells;clear hb3)
   | (go_at_call 139;(with_reducible refine (eG K3.out.tb.tab hf4).mono ?_);rintro e w4 ⟨rfl,hb4⟩;have K4:=qAq (K3.out.on hb4);obtain⟨u40,u41,u42,u43,u44⟩:=K4.out.tb.cells;clear hb4)
   | (go_at_call 140;(with_reducible refine (fH K4.out.tb.tab hf5).mono ?_);rintro e w5 ⟨rfl,hb5⟩;have K5:=qAq (K4.out.on hb5);obtain⟨u50,u51,u52,u53,u54⟩:=K5.out.tb.cells;clear hb5)
   | (go_at_call 141;(with_reducible refine (tN K5.out.tb.tab.c hf6).mono ?_);rintro e w6 ⟨rfl,hb6⟩;have K6:=qAq (K5.out.on hb6);obtain⟨u60,u61,u62,u63,u64⟩:=K6.out.tb.cells;clear hb6))
  go_ret;exact⟨aQ (HG.out.symm),HB.out▸K6.out.tb.below⟩
 have HG:Hid (mayP ts t=firstErr (t.cols.map (leads ts))):=qAq (by rw[HL.out];unfold namesGood;rw[hf2,hf3,hf4,hf5,hf6];rfl)
 go_wp2_with (first
  | (go_at_call 136;(with_reducible refine (fG K0.out.tb.tab hf1).mono ?_);rintro e w1 ⟨rfl,hb1⟩;have K1:=qAq (K0.out.on hb1);obtain⟨u10,u11,u12,u13,u14⟩:=K1.out.tb.cells;clear hb1)
  | (go_at_call 137;(with_reducible refine (gI K1.out.sch.p SM.out.1 hf2).mono ?_);rintro e w2 ⟨rfl,hb2⟩;have K2:=qAq (K1.out.on hb2);obtain⟨u20,u21,u22,u23,u24⟩:=K2.out.tb.cells;clear hb2)
  | (go_at_call 138;(with_reducible refine (cE K2.out.tb.tab.c SM.out.2 hf3).mono ?_);rintro e w3 ⟨rfl,hb3⟩;have K3:=qAq (K2.out.on hb3);obtain⟨u30,u31,u32,u33,u34⟩:=K3.out.tb.cells;clear hb3)
  | (go_at_call 139;(with_reducible refine (eG K3.out.tb.tab hf4).mono ?_);rintro e w4 ⟨rfl,hb4⟩;have K4:=qAq (K3.out.on hb4);obtain⟨u40,u41,u42,u43,u44⟩:=K4.out.tb.cells;clear hb4)
  | (go_at_call 140;(with_reducible refine (fH K4.out.tb.tab hf5).mono ?_);rintro e w5 ⟨rfl,hb5⟩;have K5:=qAq (K4.out.on hb5);obtain⟨u50,u51,u52,u53,u54⟩:=K5.out.tb.cells;clear hb5)
  | (go_at_call 141;(with_reducible refine (tN K5.out.tb.tab.c hf6).mono ?_);rintro e w6 ⟨rfl,hb6⟩;have K6:=qAq (K5.out.on hb6);obtain⟨u60,u61,u62,u63,u64⟩:=K6.out.tb.cells;clear hb6))
 clear hf1 hf2 hf3 hf4 hf5 hf6 HL u00 u01 u02 u03 u04 v0 v1 u10 u11 u12 u13 u14 u20 u21 u22 u23 u24 u30 u31 u32 u33 u34 u40 u41 u42 u43 u44 u50 u51 u52 u53 u54 u60 u61 u62 u63 u64 hb8 K1 K2 K3 K4 K5;go_loopg [6,7,49] (n+1) (fun gh _ _ jv w=>∃ (j:Nat),jv=.int .i64 (j:Int)/\j<=n/\n+1<=j+gh/\(∀ i (h:i<t.cols.length),i<j->leads ts t.cols[i]=0)/\KeepM mv B W B t (.slice pc n cc) (.slice p nd cap) sb ts w)
 case atStart=>exact⟨0,rfl,Nat.zero_le _,by omega,fun i _ hi=>by omega,K6.out⟩
 obtain⟨j,rfl,hj,hg,hno,hK⟩:=hrel;have HI:=qAq (qBq hno hK);clear hno;by_cases hlt:j<n
 ·have hjl:j<t.cols.length:=(by rw[HN.out];exact hlt);obtain⟨b,off,rfl,hb,c0,c1,c2,c3⟩:=RdC.col hK.tb.tab.1 hjl;obtain⟨c,hcj⟩:∃ c,t.cols[j]=c:=⟨_,rfl⟩;rw[hcj] at c0 c1 c2 c3;have HC:=qAq hcj;have hle:=aBA (c:=c) (hK.on (aD wr (.cells #[.string c.nm,.int .i64 c.kd,.bool c.mu,.string c.tgt] 95))).sch.p;clear hK hcj;have hml:j<(t.cols.map (leads ts)).length:=(by rw[List.length_map];exact hjl);by_cases hz:leads ts c=0
  ·have HZ:=qAq hz;rw[hz] at hle;clear hz hml;go_wp2_with (go_at_call 142;(with_reducible refine hle.mono ?_);rintro e w7 ⟨rfl,hb7⟩);go_roundg (n-j)
   case measure=>omega
   refine⟨j+1,by go_num,by omega,by omega,fun i hi hij=>?_,(HI.out.2.on (aD wr _)).on hb7⟩;by_cases e:i=j
   ·subst e;rw[HC.out];exact HZ.out
   exact HI.out.1 i hi (by omega)
  have hne:(leads ts c != 0)=true:=(by simp[hz]);have HZ:=qAq hz;clear hz;obtain⟨z,hzz⟩:∃ z,leads ts c=z:=⟨_,rfl⟩;rw[hzz] at hle hne
  have HE:Hid (firstErr (t.cols.map (leads ts))=z):=qAq (by
   have:=fQ (t.cols.map (leads ts)) j hml (by rw[List.getElem_map,HC.out];exact HZ.out) (fun i hi=>by rw[List.getElem_map];exact HI.out.1 i (by omega) hi)
   rw[this,List.getElem_map,HC.out];exact hzz)
  clear hzz hml;go_wp2_with (go_at_call 142;(with_reducible refine hle.mono ?_);rintro e w7 ⟨rfl,hb7⟩);go_ret;exact⟨aQ (by rw[HG.out,HE.out]),HB.out▸((HI.out.2.on (aD wr _)).on hb7).tb.below⟩
 go_wp2_with fail;go_ret;exact⟨aQ (by rw[HG.out];exact (eK _ (fun i hi=>by rw[List.getElem_map];rw[List.length_map] at hi;exact HI.out.1 i hi (by have:=HN.out;omega))).symm),HB.out▸HI.out.2.tb.below⟩
section
variable {S:Nat} {W w w':World} {t:T} {cv dv:Value}
end
section
variable {S base:Nat} {W w:World} {t:T} {cv dv:Value} {ps:List Value} {j:Nat}
end
theorem lH {t:T} {cv dv:Value} {W:World} (h:RdT W cv dv t) (hf:Few t):Calls Tryz.prog 81 #[.agg #[.string t.nm,cv,.string t.key,dv]] W fun e w'=>∃ p1 c1 p2 c2 ps,e=.returned (.agg #[.string t.nm,.slice p1 t.cols.length c1,.string t.key,.slice p2 t.deps.length c2]) /\
  OwnT w' (W.heap.size+2) (.slice p1 t.cols.length c1) (.slice p2 t.deps.length c2) t ps/\Below W.heap.size W w':=by
 obtain⟨pc,cc,hcv,hc1,hc2⟩:=h.1.slice;obtain⟨p,cap,hdv,hc3,hc4⟩:=h.2.slice;obtain⟨n,hn⟩:∃ n,t.cols.length=n:=⟨_,rfl⟩;obtain⟨nd,hnd⟩:∃ n,t.deps.length=n:=⟨_,rfl⟩;obtain⟨S,hS⟩:∃ S,W.heap.size=S:=⟨_,rfl⟩;have hb1:=aD W (boxT t.nm cv t.key dv);have hb2:=hb1.alloc hb1.size (boxT e0 (.slice none 0 0) e0 (.slice none 0 0));have k0:=dH (u:=boxT e0 (.slice none 0 0) e0 (.slice none 0 0)) (heap_alloc_new W (boxT t.nm cv t.key dv));have k1:=heap_alloc_new (W.alloc (boxT t.nm cv t.key dv)) (boxT e0 (.slice none 0 0) e0 (.slice none 0 0));rw[hS] at k0;rw[World.size_alloc,hS] at k1;have hcl:=mJ (h.1.later hb2) hf.1;have hsz:((W.alloc (boxT t.nm cv t.key dv)).alloc (boxT e0 (.slice none 0 0) e0 (.slice none 0 0))).heap.size=S+2:=(by rw[World.size_alloc,World.size_alloc,hS]);obtain⟨w0,hw0⟩:∃ w0,(W.alloc (boxT t.nm cv t.key dv)).alloc (boxT e0 (.slice none 0 0) e0 (.slice none 0 0))=w0:=⟨_,rfl⟩;rw[hw0] at k0 k1 hb2 hcl hsz;rw[hsz,hn] at hcl;rw[hS] at hb2;rw[hnd] at hdv hc3;rw[hn] at hcv;unfold maxLen at hc4;have HW:=qAq hw0;have HS:=qAq hS;have HB:=qAq (qBq k0 (qBq k1 (qBq hb2 hsz)));have HN:=qAq (qBq hn hnd);have HR:=qAq (qBq h.2 hf.2);have z1:=aA k0 1;have zf:=frozen_of_row w0 S 1 _ _ k0;have zl:=aC k0;subst hcv hdv;clear h hf hw0 hS k0 k1 hb1 hb2 hsz;go_enter Tryz.func81,Tryz.ntmps81;go_upto_region 1 with fail;rw[HW.out,HS.out];go_upto_region 2 with (go_at_call 116;(with_reducible refine hcl.mono ?_);rintro e y1 ⟨v',rfl,hr,hb⟩;obtain⟨pv,cv',rfl,_,_⟩:=HRow.isslice hr;have hbx:=(hb.block S (by omega)).trans HB.out.1;have z1:=aA hbx 1;have zf:=frozen_of_row y1 S 1 _ _ hbx;have zl:=aC hbx;have H1:=qAq (qBq hr (qBq hb hbx));clear hr hb hbx)
 have hI:CopyI S W t (.slice pv n cv') (.slice p nd cap) (y1.setCell ⟨S,1,none⟩ (.slice pv n cv')):=by
  have hne:∀ (q:Nat),q≠S->(y1.setCell ⟨S,1,none⟩ (.slice pv n cv')).heap[q]?=y1.heap[q]?:=(fun q h=>heap_setCell_other y1 ⟨S,1,none⟩ q _ h);refine⟨heap_setCell_same _ S 1 _ _ _ H1.out.2.2,(hne _ (by omega)).trans ((H1.out.2.1.block (S+1) (by omega)).trans HB.out.2.1),?_,?_⟩
  ·rw[HN.out.1];exact H1.out.1.of (fun k hk=>hne k (by have:=(H1.out.1.lt k hk).1;omega))
  exact (HB.out.2.2.1.trans (H1.out.2.1.mono (by omega))).setCell (p:=⟨S,1,none⟩) (Nat.le_refl _) _
 obtain⟨y2,hy2⟩:∃ y2,y1.setCell ⟨S,1,none⟩ (.slice pv n cv')=y2:=⟨_,rfl⟩;rw[hy2] at hI ⊢;clear hy2 H1 hcl;have c3:=hI.cells.2.2.2.2;have HI:=qAq hI;clear hI;have ent42:∀ a w,(callFunc 117 a).run Tryz.prog w=.ok (.enter 117 a) w:=(by intro a w;rfl);go_wp2_with fail;clear c3;go_loopg [3,13] (nd+1) (fun gh v jv w=>∃ (j:Nat) (ps:List Value),jv=.int .i64 (j:Int)/\j<=nd/\nd+1<=j+gh/\CopyI S W t (.slice pv n cv') (.slice p nd cap) w/\DepsI w (S+2) v (t.deps.take j) ps)
 case atStart=>exact⟨0,[],rfl,Nat.zero_le _,by omega,HI.out,DepsI.nil _ _⟩
 obtain⟨j,ps,rfl,hj,hg,hK,hD⟩:=hrel;have hlen:(t.deps.take j).length=j:=(by rw[List.length_take,HN.out.2];omega);have hj1:=HR.out.2.1;rw[HN.out.2] at hj1;obtain⟨pd,cd,hv,_,_⟩:=HRow.isslice hD.d;rw[hlen] at hv;subst hv;by_cases hlt:j<nd
 ·have hjl:j<t.deps.length:=(by rw[HN.out.2];exact hlt);have hsrc:RdD wr (.slice p nd cap) t.deps:=HR.out.1.later (hK.below.mono (Nat.le_of_eq HS.out));obtain⟨b,off,lv,rfl,hb,c0,c1,hlv⟩:=RdD.dep hsrc hjl;obtain⟨d,hdj⟩:∃ d,t.deps[j]=d:=⟨_,rfl⟩;have htk:t.deps.take (j+1)=t.deps.take j++[d]:=(by rw[List.take_succ_eq_append_getElem hjl,hdj]);have hdl:d.left.length<=1000:=HR.out.2.2 d (by rw[<- hdj];exact List.getElem_mem _);rw[hdj] at c1 hlv;obtain⟨pl,cl,rfl,_,_⟩:=hlv.slice;have hnew:=heap_alloc_new wr (.cells #[.slice pl d.left.length cl,.string d.right] 124);have hbn:=aD wr (.cells #[.slice pl d.left.length cl,.string d.right] 124);have hcs:=mL ((hlv.later hbn).later (aF _)) hdl;have K1:=qAq (qBq ((hK.on hbn).on (aF _)) (qBq ((hD.later hbn).later (aF _)) (qBq (aE (aF _) hnew) htk)));have HL:=qAq hlen;clear hdj hsrc hlv hdl hK hD hnew hbn hlen htk;go_upto_region 6 with fail;obtain⟨nl,hnl⟩:∃ m,d.left.length=m:=⟨_,rfl⟩;obtain⟨w1,hw1⟩:∃ w1,wr.alloc (.cells #[.slice pl d.left.length cl,.string d.right] 124)=w1:=⟨_,rfl⟩;obtain⟨S1,hS1⟩:∃ S1,wr.heap.size=S1:=⟨_,rfl⟩;rw[hw1,hS1] at K1;rw[hw1] at hcs;rw[hw1,hS1];clear hw1 hS1 c0 c1 hb;rw[hnl] at hcs K1 ⊢;have HNL:=qAq hnl;clear hnl;have x0:=aA K1.out.2.2.1 0;have x1:=aA K1.out.2.2.1 1;have xl:=aC K1.out.2.2.1
  go_region_law (first
   | (refine cA ent42 [.slice pl nl cl] (by simp[Act.eval]) ?_;(with_reducible refine Calls.mono hcs ?_);rintro e y2 ⟨lv',rfl,hr2,hb2⟩;obtain⟨pv2,cv2,rfl,_,_⟩:=HRow.isslice hr2;have q2:=aE hb2 K1.out.2.2.1;have q0:=aA q2 1;have ql:=aC q2;obtain⟨g,cap',w3,hrun,I3,D3⟩:=kY (d:=d) K1.out.1 K1.out.2.1 hb2 (by rw[HNL.out];exact hr2) (by rw[HL.out];omega);rw[HL.out] at hrun D3;have H3:=qAq (qBq I3 D3);clear I3 D3 hr2 hb2 q2 hcs;refine⟨_,rfl,?_⟩)
   | refine bJ rfl (.tmp 17) (.tmp 24) 75 rfl rfl rfl hrun ?_)
  all_goals
   go_wp2_with fail;go_roundg (nd-j)
   case measure=>omega
   case rel=>exact⟨j+1,_,by go_num,by omega,by omega,H3.out.1,by rw[K1.out.2.2.2];exact H3.out.2⟩
 obtain rfl:j=nd:=(by omega);have htk:t.deps.take j=t.deps:=List.take_of_length_le (by rw[HN.out.2];exact Nat.le_refl _);rw[htk] at hD;have hbox:=hK.box;have hres:=hK.res;have z0:=aA hbox 0;have z1:=aA hbox 1;have z2:=aA hbox 2;have z3:=aA hbox 3;have zf:=(fun i=>frozen_of_row wr S i _ _ hbox);have zl:=aC hbox;have r0:=aA hres 0;have r1:=aA hres 1;have r2:=aA hres 2;have r3:=aA hres 3;have rf:=(fun i=>frozen_of_row wr (S+1) i _ _ hres);have rl:=aC hres;have HK:=qAq (qBq hK hD);clear hK hD hbox hres htk hlen;go_wp2_with fail;obtain⟨wa,hwa⟩:∃ wa,wr.setCell ⟨S,3,none⟩ (.slice pd j cd)=wa:=⟨_,rfl⟩;have ha:∀ q:Nat,q≠S->wa.heap[q]?=wr.heap[q]?:=(fun q h=>by rw[<- hwa];exact heap_setCell_other wr ⟨S,3,none⟩ q _ h);have hab:Below S W wa:=(by rw[<- hwa];exact HK.out.1.below.setCell (p:=⟨S,3,none⟩) (Nat.le_refl _) _);have hra:=(ha (S+1) (by omega)).trans HK.out.1.res;rw[hwa];clear hwa;have hS4:=set4 hra (.string t.nm) (.slice pv n cv') (.string t.key) (.slice pd j cd);have hBx:=bD hab (show S<=S+1 by omega) (.string t.nm) (.slice pv n cv') (.string t.key) (.slice pd j cd);have hO:=cG wa (S+1);have ho:∀ q:Nat,S+2<=q->((((wa.setCell ⟨S+1,0,none⟩ (.string t.nm)).setCell ⟨S+1,1,none⟩ (.slice pv n cv')).setCell ⟨S+1,2,none⟩ (.string t.key)).setCell ⟨S+1,3,none⟩ (.slice pd j cd)).heap[q]?=wr.heap[q]?:=(fun q h=>(hO q (by omega) _ _ _ _).trans (ha q (by omega)));generalize (((wa.setCell _ _).setCell _ _).setCell _ _).setCell _ _=wz at hS4 hBx ho ⊢;have y0:=aA hS4 0;have y1:=aA hS4 1;have y2:=aA hS4 2;have y3:=aA hS4 3;refine bodyPost_ret (v:=.agg #[.string t.nm,(.slice pv n cv'),.string t.key,(.slice pd j cd)]) (by simp[results,Tryz.results81,go_sem,y0,y1,y2,y3]) rfl ?_;rw[HN.out.1,HN.out.2,HS.out];have hOwn:OwnT wr (S+2) (.slice pv n cv') (.slice pd j cd) t ps:=⟨HK.out.1.c,HK.out.2.n,HK.out.2.d,HK.out.2.l⟩;exact⟨_,_,_,_,ps,rfl,hOwn.of ho,hBx⟩
theorem tO {t:T} {cv dv:Value} {base:Nat} {ps:List Value} {W:World} (h:OwnT W base cv dv t ps) (hf:t.cols.length<=1000):Calls Tryz.prog 103 #[.agg #[.string t.nm,cv,.string t.key,dv]] W fun e w'=>e=.returned (.agg #[.string t.nm,cv,.string t.key,dv])/\OwnT w' base cv dv (formT t) ps/\Chg (fun b=>cv.ownBlock=some b) W w':=by
 obtain⟨pc,cc,hcv,hc1,hc2⟩:=HRow.isslice h.c;obtain⟨p,cap,hdv,hc3,hc4⟩:=HRow.isslice h.d;obtain⟨n,hn⟩:∃ n,t.cols.length=n:=⟨_,rfl⟩;obtain⟨nd,hnd⟩:∃ n,t.deps.length=n:=⟨_,rfl⟩;obtain⟨S,hS⟩:∃ S,W.heap.size=S:=⟨_,rfl⟩;have hb1:=aD W (boxT t.nm cv t.key dv);have hb2:=hb1.alloc hb1.size (boxT e0 (.slice none 0 0) e0 (.slice none 0 0));have k0:=dH (u:=boxT e0 (.slice none 0 0) e0 (.slice none 0 0)) (heap_alloc_new W (boxT t.nm cv t.key dv));have k1:=heap_alloc_new (W.alloc (boxT t.nm cv t.key dv)) (boxT e0 (.slice none 0 0) e0 (.slice none 0 0))
 have hM:MustI S W base t cv dv ps 0 ((W.alloc (boxT t.nm cv t.key dv)).alloc (boxT e0 (.slice none 0 0) e0 (.slice none 0 0))) :=
  ⟨by rw[hS] at k0;exact k0,by rw[World.size_alloc,hS] at k1;exact k1,by rw[mN];exact h.later hb2,Chg.of_below hb2,fun b hb=>by rw[<- hS];exact (h.c.lt b hb).2⟩
 obtain⟨w0,hw0⟩:∃ w0,(W.alloc (boxT t.nm cv t.key dv)).alloc (boxT e0 (.slice none 0 0) e0 (.slice none 0 0))=w0:=⟨_,rfl⟩;rw[hw0] at hM;have HW:=qAq hw0;have HS:=qAq hS;rw[hn] at hcv hc1 hf;rw[hnd] at hdv;unfold maxLen at hc2;have HN:=qAq (qBq hn hnd);have HM:=qAq hM;obtain⟨zl,z1,z2⟩:=hM.cells;subst hcv hdv;clear h hw0 hS hb1 hb2 k0 k1 hM hn hnd hc3 hc4;go_enter Tryz.func103,Tryz.ntmps103;go_upto_region 1 with fail;rw[HW.out,HS.out];go_wp2_with fail;clear z1 z2 zl;go_loopg [3,7] (n+1) (fun gh _ jv w=>∃ (j:Nat),jv=.int .i64 (j:Int)/\j<=n/\n+1<=j+gh/\MustI S W base t (.slice pc n cc) (.slice p nd cap) ps j w)
 case atStart=>exact⟨0,rfl,Nat.zero_le _,by omega,HM.out⟩
 obtain⟨j,rfl,hj,hg,hK⟩:=hrel;by_cases hlt:j<n
 ·have hjl:j<t.cols.length:=(by rw[HN.out.1];exact hlt);have hcc:=hK.own.c;have hcc:HRow wr base 95 4 (.slice pc n cc) (doneC t.key t.cols j).length (cellsC (doneC t.key t.cols j)):=hcc;rw[cB,HN.out.1] at hcc;obtain⟨g,cc',hgc,_,_⟩:=HRow.slice hcc (by omega);obtain⟨rfl,-,rfl⟩:=Value.slice.inj hgc;obtain⟨zl,z1,z2⟩:=hK.cells;obtain⟨gl,g0,⟨b,g2⟩,gf⟩:=hK.col HN.out.1 hjl;have HK:=qAq hK;have hji:(j:Int)<(n:Int):=(by omega);clear hK hcc;obtain⟨c,hcj⟩:∃ c,t.cols[j]=c:=⟨_,rfl⟩;rw[hcj] at g0;have HC:=qAq hcj;clear hcj;cases hx:eqS c.nm t.key
  ·have HX:=qAq hx;have hx2:(c.nm.toList==t.key.toList)=false:=(by rw[aR];exact hx);clear hx;go_upto_region 4 with fail;refine Par.wp_region_par 9 [.pointer (some ⟨S,1,none⟩),.slice (some ⟨g,0,none⟩) n cc,.int .i64 ((j:Int)),.pointer (some ⟨g,j*4,none⟩),.pointer (some ⟨g,j*4,none⟩),.string (c.nm),.pointer (some ⟨S,2,none⟩),.string (t.key),.bool false] (fun w=>w=wr.drew) ?A1 ?hm1 ?hB1 ?hA1 (rfl) ?hop1 ?hT1
   case hm1=>kernel_rfl
   case hB1=>kernel_rfl
   case hA1 =>
    simp only[Par.putA,Par.dstAt,Act.put,qDq,qEq,qFq,qLq,qGq,qHq,qIq,qJq,qKq];rfl
   case hop1 =>
    simp only[qMq,List.take_zero,Par.GiveAll,and_true];and_intros<;>intro w' hR
    ·have HR:=qAq hR;obtain rfl:=hR;simp only[Par.Gives];go_simp;all_goals exact HR.out
    ·have HR:=qAq hR;obtain rfl:=hR;simp only[Par.Gives];go_simp;all_goals exact HR.out
    ·have HR:=qAq hR;obtain rfl:=hR;simp only[Par.Gives];go_simp;all_goals exact HR.out
    ·have HR:=qAq hR;obtain rfl:=hR;simp only[Par.Gives];go_simp;all_goals exact HR.out
    ·have HR:=qAq hR;obtain rfl:=hR;simp only[Par.Gives];go_simp;all_goals exact HR.out
    ·have HR:=qAq hR;obtain rfl:=hR;simp only[Par.Gives];go_simp;all_goals exact HR.out
    ·have HR:=qAq hR;obtain rfl:=hR;simp only[Par.Gives];go_simp;all_goals exact HR.out
    ·have HR:=qAq hR;obtain rfl:=hR;simp only[Par.Gives];go_simp;all_goals exact HR.out
    have HR:=qAq hR;obtain rfl:=hR;simp only[Par.Gives];go_simp;all_goals exact HR.out
   intro w' hR;simp only[qNq,List.drop_nil];obtain rfl:=hR;go_wp2_with fail;go_roundg (n-j)
   case measure=>omega
   exact⟨j+1,by go_num,by omega,by omega,HK.out.drew.skip hjl (by rw[HC.out];exact HX.out)⟩
  have HX:=qAq hx;have hx2:(c.nm.toList==t.key.toList)=true:=(by rw[aR];exact hx);clear hx;go_upto_region 4 with fail;refine Par.wp_region_par 9 [.pointer (some ⟨S,1,none⟩),.slice (some ⟨g,0,none⟩) n cc,.int .i64 ((j:Int)),.pointer (some ⟨g,j*4,none⟩),.pointer (some ⟨g,j*4,none⟩),.string (c.nm),.pointer (some ⟨S,2,none⟩),.string (t.key),.bool true] (fun w=>w=wr.drew) ?A2 ?hm2 ?hB2 ?hA2 (rfl) ?hop2 ?hT2
  case hm2=>kernel_rfl
  case hB2=>kernel_rfl
  case hA2 =>
   simp only[Par.putA,Par.dstAt,Act.put,qDq,qEq,qFq,qLq,qGq,qHq,qIq,qJq,qKq];rfl
  case hop2 =>
   simp only[qMq,List.take_zero,Par.GiveAll,and_true];and_intros<;>intro w' hR
   ·have HR:=qAq hR;obtain rfl:=hR;simp only[Par.Gives];go_simp;all_goals exact HR.out
   ·have HR:=qAq hR;obtain rfl:=hR;simp only[Par.Gives];go_simp;all_goals exact HR.out
   ·have HR:=qAq hR;obtain rfl:=hR;simp only[Par.Gives];go_simp;all_goals exact HR.out
   ·have HR:=qAq hR;obtain rfl:=hR;simp only[Par.Gives];go_simp;all_goals exact HR.out
   ·have HR:=qAq hR;obtain rfl:=hR;simp only[Par.Gives];go_simp;all_goals exact HR.out
   ·have HR:=qAq hR;obtain rfl:=hR;simp only[Par.Gives];go_simp;all_goals exact HR.out
   ·have HR:=qAq hR;obtain rfl:=hR;simp only[Par.Gives];go_simp;all_goals exact HR.out
   ·have HR:=qAq hR;obtain rfl:=hR;simp only[Par.Gives];go_simp;all_goals exact HR.out
   have HR:=qAq hR;obtain rfl:=hR;simp only[Par.Gives];go_simp;all_goals exact HR.out
  intro w' hR;simp only[qNq,List.drop_nil];obtain rfl:=hR;go_wp2_with fail;go_roundg (n-j)
  case measure=>omega
  exact⟨j+1,by go_num,by omega,by omega,HK.out.drew.take HN.out.1 hjl (by rw[HC.out];exact HX.out)⟩
 obtain rfl:j=n:=(by omega);have hO:=hK.own;have e:doneC t.key t.cols j=t.cols.map (formC t.key):=(by rw[<- HN.out.1,pE]);rw[e] at hO;have hO:OwnT wr base (.slice pc j cc) (.slice p nd cap) (formT t) ps:=hO;have hbox:=hK.box;have hres:=hK.res;have z0:=aA hbox 0;have z1:=aA hbox 1;have z2:=aA hbox 2;have z3:=aA hbox 3;have zl:=aC hbox;have r0:=aA hres 0;have r1:=aA hres 1;have r2:=aA hres 2;have r3:=aA hres 3;have rf:=(fun i=>frozen_of_row wr (S+1) i _ _ hres);have rl:=aC hres;have HK:=qAq (qBq hK hO);clear hK hO hbox hres e;go_wp2_with fail;have hS4:=set4 HK.out.1.res (.string t.nm) (.slice pc j cc) (.string t.key) (.slice p nd cap);have hO:=cG wr (S+1);have ho:∀ q:Nat,q≠S+1->((((wr.setCell ⟨S+1,0,none⟩ (.string t.nm)).setCell ⟨S+1,1,none⟩ (.slice pc j cc)).setCell ⟨S+1,2,none⟩ (.string t.key)).setCell ⟨S+1,3,none⟩ (.slice p nd cap)).heap[q]?=wr.heap[q]?:=(fun q h=>hO q h _ _ _ _);have hns:∀ (b:Nat),b<W.heap.size->b≠S+1:=fun b h=>by rw[HS.out] at h;omega
 have hch:Chg (fun b=>(Value.slice pc j cc).ownBlock=some b) W ((((wr.setCell ⟨S+1,0,none⟩ (.string t.nm)).setCell ⟨S+1,1,none⟩ (.slice pc j cc)).setCell ⟨S+1,2,none⟩ (.string t.key)).setCell ⟨S+1,3,none⟩ (.slice p nd cap)) :=
  (((HK.out.1.chg.setCell (p:=⟨S+1,0,none⟩) (fun h=>absurd rfl (hns _ h)) _).setCell (p:=⟨S+1,1,none⟩) (fun h=>absurd rfl (hns _ h)) _).setCell (p:=⟨S+1,2,none⟩) (fun h=>absurd rfl (hns _ h)) _).setCell (p:=⟨S+1,3,none⟩) (fun h=>absurd rfl (hns _ h)) _
 generalize (((wr.setCell _ _).setCell _ _).setCell _ _).setCell _ _=wz at hS4 hch ho ⊢;have y0:=aA hS4 0;have y1:=aA hS4 1;have y2:=aA hS4 2;have y3:=aA hS4 3;refine bodyPost_ret (v:=.agg #[.string t.nm,(.slice pc j cc),.string t.key,(.slice p nd cap)]) (by simp[results,Tryz.results103,go_sem,y0,y1,y2,y3]) rfl ?_;refine⟨rfl,?_,hch⟩;have hres:=HK.out.1.res
 have hq:∀ {e:TypeId} {s:Nat} {v:Value} {m:Nat} {xs:List Value},HRow wr base e s v m xs->e≠77->HRow wz base e s v m xs:=fun {e s v m xs} hr he=>hr.of (fun k hk=>ho k (fun eq=>by
  obtain⟨_,cur,h1⟩:=hr.block k hk;rw[eq,hres] at h1;cases h1;exact he rfl))
 exact⟨hq HK.out.2.c (by decide),HK.out.2.n,hq HK.out.2.d (by decide),fun a b c=>hq (HK.out.2.l a b c) (by decide)⟩
theorem aDi {ts:List T} {t:T} (h:mayP ts t=0):Few t:=by
 obtain⟨h1,h2,_,_⟩:=gG h;unfold lim at h1;simp only[Bool.or_eq_false_iff,decide_eq_false_iff_not] at h1;unfold namesGood at h2;simp only[Bool.and_eq_true] at h2;refine⟨by omega,by omega,fun d hd=>?_⟩;have h3:=h2.2.2.2;obtain⟨j,hj,rfl⟩:=List.getElem_of_mem hd;unfold depsGood at h3;rw[List.all_eq_true] at h3
 have:=h3 j (List.mem_range.2 hj)
 unfold depAt at this;rw[List.getElem?_eq_getElem hj] at this;simp only at this;unfold depGood leftGood at this;simp only[Bool.and_eq_true,decide_eq_true_eq] at this;omega
theorem gJ (xs:List Value) (j i:Nat) (L:List Value) (u:Value) (h:xs.length=j):(xs++L).set (j+i) u=xs++L.set i u:=by
 rw[List.set_append_right _ _ (by omega),h,Nat.add_sub_cancel_left]
theorem Sch.room {W:World} {sb:Nat} {ts:List T} (h:Sch mv W sb ts) {n:Nat} (hn:ts.length=n) (h8:n<8):∃ xs a0 a1 a2 a3 r,W.heap[sb]?=some (.cells (xs++(a0::a1::a2::a3::(r++[.int .i64 n,mv]))).toArray 122)/\xs.length=n*4/\n*4+4+r.length=32/\TabsC W xs ts:=by
 obtain⟨h0,xs,rest,h1,h2,h3⟩:=h;have hx:=h3.1;rw[hn] at hx h1;rcases rest with _|⟨a0,_|⟨a1,_|⟨a2,_|⟨a3,r⟩⟩⟩⟩
 ·simp at h2;omega
 ·simp at h2;omega
 ·simp at h2;omega
 ·simp at h2;omega
 simp only[List.length_cons] at h2;exact⟨xs,a0,a1,a2,a3,r,h1,hx,by omega,h3⟩
theorem aHZ {x:World} {sb n:Nat} {xs r:List Value} {a0 a1 a2 a3:Value} {tl:List Value} {t:TypeId} (h:x.heap[sb]?=some (.cells (xs++(a0::a1::a2::a3::(r++tl))).toArray t)) (hx:xs.length=n*4) (a c d e:Value) :
  ((((x.setCell ⟨sb,n*4,none⟩ a).setCell ⟨sb,n*4+1,none⟩ c).setCell ⟨sb,n*4+2,none⟩ d).setCell ⟨sb,n*4+3,none⟩ e).heap[sb]?=some (.cells (xs++(a::c::d::e::(r++tl))).toArray t):=by
 have s0:((xs++(a0::a1::a2::a3::(r++tl))).toArray.setIfInBounds (n*4) a)=(xs++(a::a1::a2::a3::(r++tl))).toArray:=by
  rw[List.setIfInBounds_toArray,show n*4=n*4+0 from rfl,gJ xs (n*4) 0 _ _ hx];rfl
 have s1:((xs++(a::a1::a2::a3::(r++tl))).toArray.setIfInBounds (n*4+1) c)=(xs++(a::c::a2::a3::(r++tl))).toArray:=by
  rw[List.setIfInBounds_toArray,gJ xs (n*4) 1 _ _ hx];rfl
 have s2:((xs++(a::c::a2::a3::(r++tl))).toArray.setIfInBounds (n*4+2) d)=(xs++(a::c::d::a3::(r++tl))).toArray:=by
  rw[List.setIfInBounds_toArray,gJ xs (n*4) 2 _ _ hx];rfl
 have s3:((xs++(a::c::d::a3::(r++tl))).toArray.setIfInBounds (n*4+3) e)=(xs++(a::c::d::e::(r++tl))).toArray:=by
  rw[List.setIfInBounds_toArray,gJ xs (n*4) 3 _ _ hx];rfl
 have h0:=heap_setCell_same x sb (n*4) _ _ a h;rw[s0] at h0;have h1:=heap_setCell_same _ sb (n*4+1) _ _ c h0;rw[s1] at h1;have h2:=heap_setCell_same _ sb (n*4+2) _ _ d h1;rw[s2] at h2;have h3:=heap_setCell_same _ sb (n*4+3) _ _ e h2;rw[s3] at h3;exact h3
theorem aIa {x:World} {sb:Nat} {L tl:List Value} {m u:Value} {t:TypeId} (h:x.heap[sb]?=some (.cells (L++(m::tl)).toArray t)) (hL:L.length=32) :
  (x.setCell ⟨sb,32,none⟩ u).heap[sb]?=some (.cells (L++(u::tl)).toArray t):=by
 have h0:=heap_setCell_same x sb 32 _ _ u h;rw[List.setIfInBounds_toArray,show 32=32+0 from rfl,gJ L 32 0 _ _ hL] at h0;exact h0
theorem nJ {x:World} {sb n:Nat} {xs r:List Value} {a0 a1 a2 a3 m:Value} {tl:List Value} {t:TypeId} (h:x.heap[sb]?=some (.cells (xs++(a0::a1::a2::a3::(r++(m::tl)))).toArray t)) (hx:xs.length=n*4) (hr:n*4+4+r.length=32) :
  x.cell? ⟨sb,n*4,none⟩=some a0/\x.cell? ⟨sb,n*4+1,none⟩=some a1/\x.cell? ⟨sb,n*4+2,none⟩=some a2/\x.cell? ⟨sb,n*4+3,none⟩=some a3/\x.cell? ⟨sb,32,none⟩=some m:=by
 refine⟨?_,?_,?_,?_,?_⟩ <;> rw[aA h,List.getElem?_toArray,List.getElem?_append_right (by omega),hx]
 ·simp
 ·simp
 ·simp
 ·simp
 rw[show 32-n*4=r.length+1+1+1+1 by omega];simp only[qFq];rw[List.getElem?_append_right (Nat.le_refl _),Nat.sub_self];rfl
theorem aFn {w1 y2 y3:World} {sb:Nat} {ts:List T} {t:T} {n m:Nat} {p1:Option Addr} {c1:Nat} {dv:Value} {ps:List Value} (hs:Sch mv w1 sb ts) (hb:Below w1.drew.heap.size w1.drew y2) (hO:OwnT y2 (w1.drew.heap.size+2) (.slice p1 n c1) dv t ps)
  (hch:Chg (fun b=>(Value.slice p1 n c1).ownBlock=some b) y2 y3) (hm:ts.length=m) (h8:m<8):∃ xs a0 a1 a2 a3 r,y3.heap[sb]?=some (.cells (xs++(a0::a1::a2::a3::(r++[.int .i64 m,mv]))).toArray 122)/\xs.length=m*4/\m*4+4+r.length=32/\TabsC y3 xs ts/\Below w1.heap.size w1 y3:=by
 have h2:Below w1.drew.heap.size y2 y3:=hch.below hb.size (fun b hb h=>by have:=(hO.c.lt b h).1;omega);have h3:Below w1.drew.heap.size w1.drew y3:=hb.trans h2;have h4:Below w1.heap.size w1 y3:=aB (aF w1) h3;obtain⟨xs,a0,a1,a2,a3,r,k1,k2,k3,k4⟩:=(hs.later h4).room hm h8;exact⟨xs,a0,a1,a2,a3,r,k1,k2,k3,k4,h4⟩
theorem aDj {x y:World} {b:Nat} {cur:Array Value} {e:TypeId} {f:Nat×Nat} (h:x.heap[b]?=some (.cells cur e f)) (he:mt e=true) (ho:∀ q:Nat,q≠b->y.heap[q]?=x.heap[q]?):Kp x y:=by
 intro q cur' e' m hq h1 h2
 have hne:q≠b:=by
  rintro rfl;rw[h] at hq;cases hq;rw[he] at h2;cases h2
 rw[ho q hne];exact hq
theorem aFo {W y3:World} {sb base m:Nat} {ts:List T} {t:T} {cv dv:Value} {ps xs r:List Value} {a0 a1 a2 a3:Value} {m1:Int} (hO:OwnT y3 base cv dv (formT t) ps) (hk:y3.heap[sb]?=some (.cells (xs++(a0::a1::a2::a3::(r++[.int .i64 m,mv]))).toArray 122)) (hx:xs.length=m*4) (hr:m*4+4+r.length=32)
  (ht:TabsC y3 xs ts) (hb:Below W.heap.size W y3) (hm:ts.length=m) (h8:m<8) (hm1:m1=(m:Int)+1) :
  Sch mv ((((((y3.setCell ⟨sb,m*4,none⟩ (.string t.nm)).setCell ⟨sb,m*4+1,none⟩ cv).setCell ⟨sb,m*4+2,none⟩ (.string t.key)).setCell ⟨sb,m*4+3,none⟩ dv)).setCell ⟨sb,32,none⟩ (.int .i64 m1)) sb (ts++[formT t]) /\
   Chg (fun b=>b=sb) W ((((((y3.setCell ⟨sb,m*4,none⟩ (.string t.nm)).setCell ⟨sb,m*4+1,none⟩ cv).setCell ⟨sb,m*4+2,none⟩ (.string t.key)).setCell ⟨sb,m*4+3,none⟩ dv)).setCell ⟨sb,32,none⟩ (.int .i64 m1)):=by
 have hc:∀ (y:World) (i:Nat) (u:Value),Chg (fun b=>b=sb) W y->Chg (fun b=>b=sb) W (y.setCell ⟨sb,i,none⟩ u):=(fun y i u h=>h.setCell (p:=⟨sb,i,none⟩) (fun _=>rfl) u);have h4:=aHZ hk hx (.string t.nm) cv (.string t.key) dv;have e:(xs++(Value.string t.nm::cv::Value.string t.key::dv::(r++[Value.int .i64 (m:Int),mv])))=((xs++[Value.string t.nm,cv,Value.string t.key,dv])++r)++[Value.int .i64 (m:Int),mv]:=(by simp);rw[e] at h4;have h5:=aIa (u:=.int .i64 m1) h4 (by simp;omega)
 have ho:∀ q:Nat,q≠sb->((((((y3.setCell ⟨sb,m*4,none⟩ (.string t.nm)).setCell ⟨sb,m*4+1,none⟩ cv).setCell ⟨sb,m*4+2,none⟩ (.string t.key)).setCell ⟨sb,m*4+3,none⟩ dv)).setCell ⟨sb,32,none⟩ (.int .i64 m1)).heap[q]?=y3.heap[q]?:=fun q hq=>by
  have hs:∀ (y:World) (i:Nat) (u:Value),(y.setCell ⟨sb,i,none⟩ u).heap[q]?=y.heap[q]?:=(fun y i u=>heap_setCell_other y ⟨sb,i,none⟩ q u hq);rw[hs,hs,hs,hs,hs]
 have hkp:=aDj hk rfl ho;refine⟨⟨by have:=h8;simp;omega,xs++[.string t.nm,cv,.string t.key,dv],r,?_,by simp;omega,?_⟩,hc _ _ _ (hc _ _ _ (hc _ _ _ (hc _ _ _ (hc _ _ _ (Chg.of_below hb)))))⟩
 ·rw[h5,List.append_assoc,List.length_append,hm,hm1];rfl
 exact (ht.kp hkp).snoc (hO.rd.kp hkp)
def AllFew (ts:List T):Prop:=∀ t∈ts,Few t
theorem aDk:Few zeroT:=⟨by decide,by decide,fun d h=>by simp[zeroT] at h⟩
theorem tP {ts:List T} (h:AllFew ts) (x:ByteArray):Few (orT (findT ts x)):=by
 unfold orT;cases hf:findT ts x with
 | none=>exact aDk
 | some t=>exact h t (List.mem_of_find?_eq_some hf)
theorem eP {pv:Value} {ts:List T} {x:ByteArray} {W:World} (h:SchP mv W pv ts) (hf:AllFew ts):Calls Tryz.prog 45 #[pv,.string x] W (GivesT (orT (findT ts x)) (hasT ts x) W):=by
 have hfew:=tP hf x;have hB0:=aD W (boxT e0 (.slice none 0 0) e0 (.slice none 0 0));have h0:=heap_alloc_new W (boxT e0 (.slice none 0 0) e0 (.slice none 0 0));have hfi:=gH (x:=x) (h.later hB0);generalize orT (findT ts x)=t at hfi hfew ⊢;generalize hasT ts x=ok at hfi ⊢;obtain⟨S,hS⟩:∃ S,W.heap.size=S:=⟨_,rfl⟩;obtain⟨w0,hw0⟩:∃ w0,W.alloc (boxT e0 (.slice none 0 0) e0 (.slice none 0 0))=w0:=⟨_,rfl⟩;rw[hw0] at hB0 h0 hfi;rw[hS] at h0;have HB:=qAq (qBq hB0 (qBq h0 hfew));have HW:=qAq hw0;have HS:=qAq hS;clear h hf hw0 hS hB0 h0 hfew;go_enter Tryz.func45,Tryz.ntmps45;go_upto_region 1 with fail;rw[HW.out,HS.out]
 go_wp2_with (first
  | (go_at_call 80;(with_reducible refine hfi.mono ?_);rintro e w1 ⟨p1,n1,c1,p2,n2,c2,rfl,hr,hb⟩;have hb1:=aD w1 (boxT t.nm (.slice p1 n1 c1) t.key (.slice p2 n2 c2));have hcp:=lH (hr.later hb1) HB.out.2.2;have H1:=qAq (qBq hb hb1);clear hb hb1 hr hfi)
  | (go_at_call 81;(with_reducible refine hcp.mono ?_);rintro e w2 ⟨q1,d1,q2,d2,ps,rfl,hO,hb2⟩;have hres:=aE hb2 (aE H1.out.2 (aE H1.out.1 HB.out.2.1));have z0:=aA hres 0;have z1:=aA hres 1;have z2:=aA hres 2;have z3:=aA hres 3;have zf:=fun i=>frozen_of_row w2 S i _ _ hres;have zl:=aC hres;have H2:=qAq (qBq hO (qBq (aB (aB (aB HB.out.1 H1.out.1) H1.out.2) hb2) hres));clear hO hb2 hcp hres))
 have hS4:=set4 H2.out.2.2 (.string t.nm) (.slice q1 t.cols.length d1) (.string t.key) (.slice q2 t.deps.length d2);have hBx:=bD H2.out.2.1 (Nat.le_of_eq HS.out) (.string t.nm) (.slice q1 t.cols.length d1) (.string t.key) (.slice q2 t.deps.length d2);have hKp:=aAb H2.out.2.2 rfl (.string t.nm) (.slice q1 t.cols.length d1) (.string t.key) (.slice q2 t.deps.length d2);generalize (((w2.setCell _ _).setCell _ _).setCell _ _).setCell _ _=wz at hS4 hBx hKp ⊢;have y0:=aA hS4 0;have y1:=aA hS4 1;have y2:=aA hS4 2;have y3:=aA hS4 3;refine bodyPost_ret (v:=.tuple #[.agg #[.string t.nm,(.slice q1 t.cols.length d1),.string t.key,(.slice q2 t.deps.length d2)],.bool ok]) (by simp[results,Tryz.results45,go_sem,y0,y1,y2,y3]) rfl ?_;exact⟨_,_,_,_,_,_,rfl,H2.out.1.rd.kp hKp,hBx⟩
theorem tQ {pv:Value} {ts:List T} {x c:ByteArray} {W:World} (h:SchP mv W pv ts):Calls Tryz.prog 133 #[pv,.string x,.string c] W fun e w'=>e=.returned (.tuple #[colVQ (orC (colOf (orT (findT ts x)).cols c)),.bool (hasC (orT (findT ts x)).cols c)])/\Below W.heap.size W w':=by
 have hB0:=aD W (.cells #[.string e0,.int .i64 0,.bool false,.string e0] 95);have h0:=heap_alloc_new W (.cells #[.string e0,.int .i64 0,.bool false,.string e0] 95);have hfi:=gH (x:=x) (h.later hB0);generalize orT (findT ts x)=t at hfi ⊢;generalize hasT ts x=ok at hfi ⊢;have hcl:=(fun (w:World) (v:Value) (hr:RdC w v t.cols)=>iH (x:=c) hr);generalize orC (colOf t.cols c)=k at hcl ⊢;generalize hasC t.cols c=ok2 at hcl ⊢;unfold colVQ at hcl ⊢;obtain⟨S,hS⟩:∃ S,W.heap.size=S:=⟨_,rfl⟩;obtain⟨w0,hw0⟩:∃ w0,W.alloc (.cells #[.string e0,.int .i64 0,.bool false,.string e0] 95)=w0:=⟨_,rfl⟩;rw[hw0] at hB0 h0 hfi;rw[hS] at h0;have HB:=qAq (qBq hB0 h0);have HW:=qAq hw0;have HS:=qAq hS;clear h hw0 hS hB0 h0;go_enter Tryz.func133,Tryz.ntmps133;go_upto_region 1 with fail;rw[HW.out,HS.out]
 go_wp2_with (first
  | (go_at_call 80;(with_reducible refine hfi.mono ?_);rintro e w1 ⟨p1,n1,c1,p2,n2,c2,rfl,hr,hb⟩;have hb1:=aD w1 (boxT t.nm (.slice p1 n1 c1) t.key (.slice p2 n2 c2));have hcp:=hcl _ _ (hr.later hb1).c;have H1:=qAq (qBq hb hb1);clear hb hb1 hr hfi hcl)
  | (go_at_call 155;(with_reducible refine hcp.mono ?_);rintro e w2 ⟨rfl,hb2⟩;have hres:=aE hb2 (aE H1.out.2 (aE H1.out.1 HB.out.2));have z0:=aA hres 0;have z1:=aA hres 1;have z2:=aA hres 2;have z3:=aA hres 3;have zf:=fun i=>frozen_of_row w2 S i _ _ hres;have zl:=aC hres;have H2:=qAq (qBq (aB (aB (aB HB.out.1 H1.out.1) H1.out.2) hb2) hres);clear hb2 hcp hres))
 have hS4:=set4 H2.out.2 (.string k.nm) (.int .i64 k.kd) (.bool k.mu) (.string k.tgt);have hBx:=bD H2.out.1 (Nat.le_of_eq HS.out) (.string k.nm) (.int .i64 k.kd) (.bool k.mu) (.string k.tgt);generalize (((w2.setCell _ _).setCell _ _).setCell _ _).setCell _ _=wz at hS4 hBx ⊢;have y0:=aA hS4 0;have y1:=aA hS4 1;have y2:=aA hS4 2;have y3:=aA hS4 3;refine bodyPost_ret (v:=.tuple #[.agg #[.string k.nm,.int .i64 k.kd,.bool k.mu,.string k.tgt],.bool ok2]) (by simp[results,Tryz.results133,go_sem,y0,y1,y2,y3]) rfl ?_;exact⟨rfl,hBx⟩
theorem xK {pv:Value} {ts:List T} {W:World} (h:SchP mv W pv ts) (hl:ts.length<=1000):Calls Tryz.prog 44 #[pv] W fun e w'=>∃ v',e=.returned v'/\HRow w' W.heap.size 9 1 v' ts.length (cellsS (ts.map T.nm))/\Below W.heap.size W w':=by
 have hth:=pM h;clear h;obtain⟨n,hn⟩:∃ n,ts.length=n:=⟨_,rfl⟩;rw[hn] at hl ⊢;have HNN:=qAq hn;clear hn;go_enter Tryz.func44,Tryz.ntmps44;go_wp2_with (go_at_call 79;(with_reducible refine hth.mono ?_);rintro e w1 ⟨v,rfl,hr,hb⟩;clear hth;obtain⟨p,cap,hv,hc,hm⟩:=hr.slice;rw[HNN.out] at hv hc;subst hv;have H1:=qAq (qBq hr (qBq hb HNN.out));clear hr hb);clear hm;go_loopg [3,9] (n+1) (fun gh v jv w=>∃ (j:Nat),jv=.int .i64 (j:Int)/\j<=n/\n+1<=j+gh/\HRow w w1.heap.size 9 1 v j (cellsS ((ts.take j).map T.nm))/\Below w1.heap.size w1 w)
 case atStart=>exact⟨0,rfl,Nat.zero_le _,by omega,HRow.nil,Below.refl _ _⟩
 obtain⟨j,rfl,hj,hg,hR,hB⟩:=hrel;obtain⟨pv',cv',rfl,_,_⟩:=hR.isslice;have hrw:RdTs wr (.slice p n cap) ts:=H1.out.1.later hB;have HI:=qAq (qBq hR hB);by_cases hlt:j<n
 ·have hjl:j<ts.length:=(by rw[H1.out.2.2];exact hlt);obtain⟨b,off,cv,dv,rfl,hb,c0,c1,c2,c3,hrt⟩:=RdTs.tab hrw hjl;obtain⟨t,htj⟩:∃ t,ts[j]=t:=⟨_,rfl⟩;rw[htj] at c0 c2 hrt;obtain⟨p1,cp1,rfl,_,_⟩:=hrt.1.slice;obtain⟨p2,cp2,rfl,_,_⟩:=hrt.2.slice;generalize t.cols.length=m1 at *;generalize t.deps.length=m2 at *;have hba:=aD wr (boxT t.nm (.slice p1 m1 cp1) t.key (.slice p2 m2 cp2));obtain⟨g,cap',w3,hrun,r3,g3,o3⟩:=app_one (ty:=85) Tryz.underlying85 aGA (by kernel_rfl) (by decide) (by decide) (wr.alloc (boxT t.nm (.slice p1 m1 cp1) t.key (.slice p2 m2 cp2))) w1.heap.size (hR.later hba) (by omega) (Nat.le_trans hB.size hba.size) #[.string t.nm] rfl (by intro u hu;simp only[List.mem_cons,List.not_mem_nil,or_false] at hu;subst hu;rfl);have htk:cellsS ((ts.take (j+1)).map T.nm)=cellsS ((ts.take j).map T.nm)++[.string t.nm]:=(by rw[List.take_succ_eq_append_getElem hjl,htj];simp[cellsS]);have H3:=qAq (qBq r3 (qBq ((hB.alloc hB.size _).trans (eM (hR.later hba) g3 (Nat.le_refl _) (Nat.le_trans hB.size hba.size))) htk));rw[World.size_alloc] at hrun;clear hR hB hrt hrw hba r3 g3 o3 htj htk;go_wp2_with (at_builtin;refine aK rfl (.tmp 13) (.tmp 16) 85 rfl rfl rfl hrun ?_);go_roundg (n-j)
  case measure=>omega
  exact⟨j+1,by go_num,by omega,by omega,by rw[H3.out.2.2];exact H3.out.1,H3.out.2.1⟩
 obtain rfl:j=n:=(by omega);clear hR hB hrw;go_wp2_with fail;go_ret;have e:ts.take j=ts:=List.take_of_length_le (by rw[H1.out.2.2];exact Nat.le_refl _);refine⟨_,rfl,?_,aB H1.out.2.1 HI.out.2⟩
 have:=HI.out.1
 rw[e] at this;exact this.mono H1.out.2.1.size
theorem aHn {pv:Value} {ts:List T} {x c:ByteArray} {W:World} {nm tg:ByteArray} {kd:Int} {mu ok:Bool} (h:SchP mv W pv ts) (hk:orC (colOf (orT (findT ts x)).cols c)=⟨nm,kd,mu,tg⟩) (ho:hasC (orT (findT ts x)).cols c=ok):Calls Tryz.prog 133 #[pv,.string x,.string c] W fun e w'=>e=.returned (.tuple #[.agg #[.string nm,.int .i64 kd,.bool mu,.string tg],.bool ok])/\Below W.heap.size W w':=by
 have:=tQ (x:=x) (c:=c) h
 rw[hk,ho] at this;exact this
