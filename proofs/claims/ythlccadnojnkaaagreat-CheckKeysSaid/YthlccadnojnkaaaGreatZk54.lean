import Derived.Test.YthlccadnojnkaaaGreatZk53
import Derived.Test.YthlccadnojnkaaaGreatZk3
set_option maxHeartbeats 8000000
set_option maxRecDepth 100000
namespace Go.Proofs.YthlccadnojnkaaaGreat
open Go Go.RowKit Go.Proofs Co Co.S
theorem aHw (v:Int):OpOk (kyO v):=cM (tb:=sLand) (by decide) (by decide) (fun x hx=>by
 have h:x=(1,v,e0)∨x=(0,0,e0):=(by simpa [kyV] using hx);rcases h with rfl|rfl
 ·exact Nat.zero_le _
 ·exact Nat.zero_le _) (by show 2<=10;decide)
theorem aBV {vs:List Int} {v u:Int} {i j:Nat} (h:(vs.take (j+1)).any (fun u=>decide (v=u))=((vs.take j).any (fun u=>decide (v=u)) || decide (v=u))):innI vs v i (j+1)=if innI vs v i j<0/\u=v then (i:Int) else innI vs v i j:=by
 unfold innI;rw[h];by_cases hf:fstI vs<0
 ·rw[if_pos hf,if_pos hf];cases (vs.take j).any (fun u=>decide (v=u))
  ·by_cases hu:u=v
   ·subst hu;simp
   have hu':¬ v=u:=(fun e=>hu e.symm);simp[hu,hu']
  simp
 rw[if_neg hf,if_neg hf,if_neg (fun h=>hf h.1)]
theorem aBW {p0:Option Addr} {c0:Nat} {xs:List Int} (W:World) (hx:RdN W p0 xs) (hm:xs.length<=maxLen):Calls Tryz.prog 6 #[.slice p0 xs.length c0] W fun e w'=>e=.returned (.bool true)/\Below W.heap.size W w':=by
 have hbeg:=cY W;obtain⟨n,hn⟩:∃ n,xs.length=n:=⟨_,rfl⟩;have hni:(n:Int)<=9223372036854775807:=(by unfold maxLen at hm;omega);have HX:=qAq (qBq hx hn);rw[hn];clear hx hm hn;go_enter Tryz.func6,Tryz.ntmps6;go_upto_region 4 with (go_at_call 12;(with_reducible refine hbeg.mono ?_);rintro e w4 ⟨rfl,hb2⟩;have H4:=qAq hb2;clear hbeg hb2);have hstar:=cP w4;go_upto_region 5 with (go_at_call 13;(with_reducible refine hstar.mono ?_);rintro e w5 ⟨d,b,ps,rfl,hP5⟩;have HP5:=qAq hP5;clear hstar hP5);have hb5:=aB H4.out (HP5.out.bel (Below.refl _ _) (fun q hq=>hq))
 have HXC:Hid (∀ i,i<n->∃ g off,p0=some ⟨g,off,none⟩/\∀ w,Below w5.heap.size w5 w->g<w.heap.size/\w.cell? ⟨g,off+i,none⟩=some (.int .i64 (xs.getD i 0))):=qAq (fun i hi=>by
  obtain⟨g,off,e,h1,h2⟩:=HX.out.1 i (by rw[HX.out.2];exact hi);refine⟨g,off,e,fun w hw=>?_⟩;have hb:=aB hb5 hw;exact⟨Nat.lt_of_lt_of_le h1 hb.size,(World.cell?_of_block (w:=W) (hb.block _ h1)).trans h2⟩)
 clear hb5;go_wp2_with fail;go_loopg [6,7,8] 31 (fun gh lv fv iv w=>∃ (i:Nat) (p:Option Addr) (c:Nat),iv=.int .i64 (i:Int)/\i<=n/\i<=30/\31<=i+gh/\lv=.slice p i c/\fv=.int .i64 (fstI (kyT xs i))/\OpsO w w5.heap.size (.slice p i c) ((kyT xs i).map kyO)/\Below w5.heap.size w5 w)
 case atStart=>exact⟨0,none,0,rfl,Nat.zero_le _,Nat.zero_le _,by omega,rfl,rfl,OpsO.nil,Below.refl _ _⟩
 obtain⟨i,p,c,rfl,hin,hi30,hg,rfl,rfl,ho,hB⟩:=hrel;have HB:=qAq (qBq ho hB);have hkl:=rV (xs:=xs) (i:=i) (by rw[HX.out.2];exact hin);clear ho hB;by_cases hlt:i<n/\i<30
 ·obtain⟨hlt,hl30⟩:=hlt;have hii:(i:Int)<(n:Int):=(by omega);have hi3:(i:Int)<30:=(by omega);have hix:i<xs.length:=(by rw[HX.out.2];exact hlt);have hsucc:=aEg hix;have hfs:=aBT (kyT xs i) ((xs.getD i 0).tmod 20);rw[<- hsucc,hkl] at hfs;obtain⟨xi,hxi⟩:∃ x,xs.getD i 0=x:=⟨_,rfl⟩;rw[hxi] at hsucc hfs;obtain⟨vs,hvs⟩:∃ v,kyT xs i=v:=⟨_,rfl⟩;obtain⟨f0,hf0⟩:∃ f,fstI vs=f:=⟨_,rfl⟩;rw[hvs] at hsucc hfs hkl;rw[hvs,hf0];obtain⟨g,off,rfl,hci⟩:=HXC.out i hlt;rw[hxi] at hci
  have HXI:Hid (∀ j,j<n->∀ w,Below w5.heap.size w5 w->g<w.heap.size/\w.cell? ⟨g,off+j,none⟩=some (.int .i64 (xs.getD j 0))):=qAq (fun j hj w hw=>by
   obtain⟨g',off',e,h1⟩:=HXC.out j hj;cases e;exact h1 w hw)
  have HCI:=qAq hci;have HI:=qAq (qBq hsucc (qBq hfs (qBq hkl (qBq hvs (qBq hf0 hxi)))));clear hsucc hfs hkl hvs hf0 hxi hci hix;obtain⟨wo,hwo⟩:∃ z,z=wr:=⟨_,rfl⟩;subst hwo;go_wp2_with fail;go_loopg [7,9] (i+1) (fun gh fv jv w=>∃ (j:Nat),jv=.int .i64 (j:Int)/\j<=i/\i+1<=j+gh/\fv=.int .i64 (innI vs (xi.tmod 20) i j)/\Below wo.heap.size wo w)
  case atStart=>exact⟨0,rfl,Nat.zero_le _,by omega,by rw[aBU,HI.out.2.2.2.2.1],Below.refl _ _⟩
  obtain⟨j,rfl,hj,hgj,rfl,hBj⟩:=hrel;have HBJ:=qAq hBj;clear hBj;by_cases hlj:j<i
  ·have hji:(j:Int)<(i:Int):=(by omega);have hjn:(j:Int)<(n:Int):=(by omega);have hnx:=aBV (i:=i) (aFR (v:=xi.tmod 20) hlj (by rw[HX.out.2];exact hin));rw[HI.out.2.2.2.1] at hnx;obtain⟨xj,hxj⟩:∃ x,xs.getD j 0=x:=⟨_,rfl⟩;rw[hxj] at hnx;obtain⟨f,hf⟩:∃ f,innI vs (xi.tmod 20) i j=f:=⟨_,rfl⟩;rw[hf] at hnx;rw[hf];have HBr:Hid (∀ y,Below wr.heap.size wr y->Below w5.heap.size w5 y):=qAq (fun y hy=>aB (aB HB.out.2 HBJ.out) hy)
   have HCJ:Hid (∀ y,Below wr.heap.size wr y->g<y.heap.size/\y.cell? ⟨g,off+j,none⟩=some (.int .i64 xj)):=qAq (fun y hy=>by
    rw[<- hxj];exact HXI.out j (by omega) y (HBr.out y hy))
   have HNX:=qAq hnx;clear hnx hxj hf;by_cases hf:f<0
   ·obtain⟨q,hq⟩:∃ q,(xj.tmod 20==xi.tmod 20)=q:=⟨_,rfl⟩;go_upto_region 13 with fail;refine Par.wp_region_par 15 [.int .i64 f,.bool true,.bool true,.slice (some ⟨g,off,none⟩) n c0,.int .i64 ((j:Int)),.pointer (some ⟨g,off+j,none⟩),.int .i64 xj,.int .i64 (xj.tmod 20),.slice (some ⟨g,off,none⟩) n c0,.int .i64 ((i:Int)),.pointer (some ⟨g,off+i,none⟩),.int .i64 xi,.int .i64 (xi.tmod 20),.bool q,.bool q] (fun y=>Below wr.heap.size wr y) ?A1 ?hm1 ?hB1 ?hA1 ((aF wr)) ?hop1 ?hT1
    case hm1=>kernel_rfl
    case hB1=>kernel_rfl
    case hA1 =>
     simp only[Par.putA,Par.dstAt,Act.put,qDq,qEq,qFq,qLq,qGq,qHq,qIq,qJq,qKq];rfl
    case hop1 =>
     simp only[qMq,List.take_zero,Par.GiveAll,and_true];and_intros<;>intro w' hR<;>have HR:=qAq hR
     rotate_left 6;have z0:=(HCJ.out w' hR).2;rotate_left 5;have z0:=(HCI.out w' (HBr.out w' hR)).2;rotate_left 4
     all_goals(clear hR;simp only[Par.Gives];go_simp;all_goals exact HR.out)
    intro w' hR;simp only[qNq,List.drop_nil];have HR:=qAq (aB HBJ.out hR);clear hR;cases q
    ·have hne:¬ xj.tmod 20=xi.tmod 20:=(fun e=>by rw[e] at hq;simp at hq);have HE:Hid (innI vs (xi.tmod 20) i (j+1)=f):=qAq (by rw[HNX.out,if_neg (fun h=>hne h.2)]);clear hne;go_wp2_with fail;go_roundg (i-j)
     case measure=>omega
     exact⟨j+1,by go_num,by omega,by omega,by rw[HE.out],HR.out⟩
    have heq:xj.tmod 20=xi.tmod 20:=beq_iff_eq.1 hq;have HE:Hid (innI vs (xi.tmod 20) i (j+1)=(i:Int)):=qAq (by rw[HNX.out,if_pos ⟨hf,heq⟩]);clear heq;go_wp2_with fail;go_roundg (i-j)
    case measure=>omega
    exact⟨j+1,by go_num,by omega,by omega,by rw[HE.out],HR.out⟩
   have HE:Hid (innI vs (xi.tmod 20) i (j+1)=f):=qAq (by rw[HNX.out,if_neg (fun h=>hf h.1)]);go_upto_region 13 with fail;refine Par.wp_region_par 15 [.int .i64 f,.bool false,.bool false,undef,undef,undef,undef,undef,undef,undef,undef,undef,undef,undef,.bool false] (fun y=>Below wr.heap.size wr y) ?A2 ?hm2 ?hB2 ?hA2 ((aF wr)) ?hop2 ?hT2
   case hm2=>kernel_rfl
   case hB2=>kernel_rfl
   case hA2 =>
    simp only[Par.putA,Par.dstAt,Act.put,qDq,qEq,qFq,qLq,qGq,qHq,qIq,qJq,qKq];rfl
   case hop2 =>
    simp only[qMq,List.take_zero,Par.GiveAll,and_true];and_intros<;>intro w' hR<;>have HR:=qAq hR
    rotate_left 15
    all_goals(clear hR;simp only[Par.Gives];go_simp;all_goals exact HR.out)
   intro w' hR;simp only[qNq,List.drop_nil];have HR:=qAq (aB HBJ.out hR);clear hR;go_wp2_with fail;go_roundg (i-j)
   case measure=>omega
   exact⟨j+1,by go_num,by omega,by omega,by rw[HE.out],HR.out⟩
  obtain rfl:j=i:=(by omega);have hci:=HCI.out wr (aB HB.out.2 HBJ.out);have c1:=hci.2;have c2:=hci.1;have hn1:=aU (xi.tmod 20) wr;clear hci
  go_wp2_with (first
   | (go_at_call 15;(with_reducible refine hn1.mono ?_);rintro e w6 ⟨rfl,hb6⟩;have D6:=qAq hb6;have hp1:=cR sLand (kyV (xi.tmod 20)) 2 #[.int .i64 1,.int .i64 (xi.tmod 20),.string e0,.int .i64 0,.int .i64 0,.string e0] rfl rfl (by decide) (by decide) w6;clear hn1 hb6)
   | (go_at_call 14;(with_reducible refine hp1.mono ?_);rintro e w7 ⟨g3,k3,rfl,hr7,hb7⟩;have hrun:=dL (n1:=sLand) (base:=w5.heap.size) (l1:=kyV (xi.tmod 20)) (HB.out.1.later HBJ.out) (by rw[List.length_map,rV (by rw[HX.out.2];exact hin)]) (aB D6.out hb7) (aB HB.out.2 HBJ.out).size (hr7.mono D6.out.size) (by omega);obtain⟨g',cap,wz,hrun,ho2,hbz⟩:=hrun;have HZ:=qAq (qBq ho2 ((aB HB.out.2 HBJ.out).trans hbz));clear hp1 hr7 hb7 ho2 hbz)
   | (at_builtin;refine aK rfl (.tmp 49) (.tmp 59) 35 rfl rfl rfl hrun ?_))
  go_roundg (31-(j+1))
  case measure=>omega
  exact⟨j+1,_,_,by go_num,by omega,by omega,by omega,rfl,by rw[HI.out.2.1],by rw[HI.out.1,<- HI.out.2.2.2.1,List.map_append];exact HZ.out.1,HZ.out.2⟩
 obtain⟨vs,hvs⟩:∃ v,kyT xs i=v:=⟨_,rfl⟩;rw[hvs] at HB hkl;rw[hvs];have hol:(vs.map kyO).length=i:=(by rw[List.length_map];exact hkl);have hP:=HP5.out.with HB.out.2
 have hfill:Calls Tryz.prog 17 #[.pointer (some ⟨d,0,none⟩),.pointer (some ⟨b,0,none⟩),.slice p i c] wr (fun e w'=>e=.returned (.tuple #[])/\PD (fun q=>q<w4.heap.size∨(w5.heap.size<=q/\q<wr.heap.size)) wr w' d b (pre 4) ps (kyL vs) (kyL vs)):=by
  have ho:=HB.out.1;have hi:=hi30;subst hol;rw[<- uW]
  exact jN (m:=0) hP ho (fun q h1 h2=>.inr ⟨h1,h2⟩) (cO 4 (by decide)) (bQ 4) aO cL cD cD (by omega) (fun o ho=>by
   obtain⟨v,_,rfl⟩:=List.mem_map.1 ho;exact aHw v)
 have hsm:∀ x∈kyL vs,SmP 100 x:=by
  rw[<- uW];exact fun x hx=>(dY cD x hx).mono (by omega)
 have hck0:=aEf (vs:=vs) (by omega);have HC:=qAq (qBq hck0 hsm);clear hP hol hsm hck0 hvs hkl hg;obtain⟨wo,hwo⟩:∃ z,z=wr:=⟨_,rfl⟩;subst hwo;have hstop:¬ (i:Int)<(n:Int)∨((i:Int)<(n:Int)/\¬ (i:Int)<30):=(by omega);rcases hstop with hs|⟨hs,hs2⟩
 all_goals
  clear hlt;go_upto_region 17 with (go_at_call 17;(with_reducible refine hfill.mono ?_);rintro e w13 ⟨rfl,hP13⟩;have HP13:=qAq ((HP5.out.later HB.out.2).back hP13 (fun q hq=>.inl hq));clear hfill hP13);have hck:=HP13.out.check bE HC.out.2 (by decide);rw[HC.out.1] at hck;have HW:=qAq H4.out;by_cases hf:fstI vs<0
  ·rw[aEh hf] at hck;obtain⟨f,hfe⟩:∃ f,fstI vs=f:=⟨_,rfl⟩;rw[hfe] at hf;rw[hfe];go_upto_region 18 with (go_at_call 18;(with_reducible refine hck.mono ?_);rintro e w14 ⟨rfl,hb14⟩;have H14:=qAq hb14;clear hck hb14);have b15:=aD w14 (.cells zF 39);have k15:=heap_alloc_new w14 (.cells zF 39);have z0:=aA k15 0;have zl:=aC k15;have HE:=qAq (aB H4.out ((HP13.out.later (aB H14.out b15)).bel (Below.refl _ _) (fun q hq=>hq)));clear b15 k15;go_wp2_with fail;go_ret;exact⟨rfl,HE.out⟩
  ·rw[aEi hf] at hck;obtain⟨f,hfe⟩:∃ f,fstI vs=f:=⟨_,rfl⟩;rw[hfe] at hf hck;rw[hfe];go_upto_region 18 with (go_at_call 18;(with_reducible refine hck.mono ?_);rintro e w14 ⟨rfl,hb14⟩;have H14:=qAq hb14;clear hck hb14);have b15:=aD w14 (.cells #[.int .i64 8,.int .i64 0,.string sLand,.int .i64 f,.string sId] 39);have k15:=heap_alloc_new w14 (.cells #[.int .i64 8,.int .i64 0,.string sLand,.int .i64 f,.string sId] 39);have z0:=aA k15 0;have z1:=aA k15 1;have z2:=aA k15 2;have z3':=aA k15 3;have z4:=aA k15 4;have zl:=aC k15;have HE:=qAq (aB H4.out ((HP13.out.later (aB H14.out b15)).bel (Below.refl _ _) (fun q hq=>hq)));clear b15 k15;go_wp2_with fail;go_ret;exact⟨rfl,HE.out⟩
end Go.Proofs.YthlccadnojnkaaaGreat
namespace Go.Proofs.YthlccadnojnkaaaGreat
open Go Go.ChangeShapes Go.WideShapes Go.ChangeAt Go.RowKit
open Go.ChangeMaps (open_string shut_string)
theorem kP (os:Os) (started:os.Started) (H:Type) (enc:TypeId×Value->H) :
  ReturnsInHanded {} Tryz.checked os 6 .any (Rows.checkKeysSpec.pre6 enc Tryz.prog Tryz.f6 Rows.checkKeysRow.domain false) (Rows.checkKeysSpec.post enc Tryz.prog Tryz.f6 false true false false):=by
 refine returnsInHanded_of_change (C:=Tryz.checked) own started (by kernel_rfl) Tryz.func6
  (ChangeSpec.witness6 (enc:=enc) (C:=Tryz.checked) false ⟨#[],#[.slice none 0 0],[]⟩ 8 (by kernel_rfl) (by kernel_rfl) (by kernel_rfl) (by kernel_rfl)) ?_
 intro W base args ds gs before hval0 hW _ _;have hval:∀ (j:Nat) t v,Tryz.f6.params[j]?=some t->args[j]?=some v->Value.okWide Tryz.prog W .any base t v:=hval0;have hW':=hW;obtain⟨p,q,hA0,hV,rfl,hfz,hnd⟩:=hW;have hA:DataW.TrodAll enc Tryz.prog W 0 (fun _=>true) true Tryz.f6.params.toList args.toList ds p:=hA0;rw[Tryz.params6] at hA hval;obtain⟨v0,vs0,d0,ds0,p0,q0,hargs,rfl,rfl,h0,r0⟩:=trodAll_cons hA;obtain⟨rfl,rfl,rfl⟩:=trodAll_nil r0;obtain rfl:args=#[v0]:=(by cases args;simp_all);obtain⟨rfl,rfl⟩:=trodVars_none hV;have k0:=h0;have lt0:∀ x∈p0,x.block<W.heap.size:=(by obtain⟨m,hm⟩:=k0;exact DataW.trod_lt m _ _ _ hm);obtain⟨q0x,xs0,ln0,cp0,rfl,hl0,hc0,s0⟩:=kO h0 (okWide_slice Tryz.underlying45 (hval 0 45 v0 rfl rfl));subst hl0;clear hA0 hval0;refine (aBW W s0 (Nat.le_trans hc0.1 hc0.2)).mono fun e W' ⟨he,bel⟩=>?_
 subst he;exact⟨_,rfl,_,_,_,[],_,[],hW',trodAll_mk1 (shut_bool Tryz.underlying4 _),(trodAll_cons_mk (Below.trod bP (by kernel_rfl) (of_decide_eq_true (by kernel_rfl)) k0 bel lt0) trodAll_mk0),rfl,bel.frame _,fun h=>by cases h⟩
theorem checkKeys_holds:Rows.CheckKeysSaid :=
 OpenClaim.holds_of_wide 6 Tryz.f6 rfl rfl rfl rfl rfl rfl rfl ⟨rfl,rfl,rfl,rfl,rfl⟩ rfl rfl rfl rfl rfl (by kernel_rfl) Tryz.func6 (by kernel_rfl)
  (of_decide_eq_true (by kernel_rfl)) (by unfold Func.isWrapper;first | (rw[if_pos (by decide +kernel)];kernel_rfl) | (rw[if_neg (by decide +kernel)];exact⟨rfl,rfl⟩))
  (fun os started H enc _=>kP os started H enc)
