import Derived.Test.YtkchgbjoeggdbaaGreatZn18
set_option maxHeartbeats 2000000
set_option maxRecDepth 100000
namespace Go.Proofs.YtkchgbjoeggdbaaGreat
open Go.Proofs.Tryz
open Go Go.RowKit Go.Proofs
variable{mv:Value}
section
variable{w:World}{base:Nat}{e:TypeId}{size:Nat}{v:Value}{n:Nat}{xs:List Value}
variable{g cap:Nat}
end
section
variable{P:Program}(w:World)
end
section
variable{P:Program}
end
theorem mQ(s:ByteArray)(k:Nat)(h:k<s.size):s.data.toList.take (k+1)=s.data.toList.take k++[s[k]]:=by
 rw[yi (by simpa using h)];rfl
def kws:List (List UInt8):=[
 [116,97,98,108,101],
 [107,101,121],
 [102,100],
 [105,110,116],
 [116,101,120,116],
 [109,117,115,116],
 [116,111],
 [108,111,97,100],
 [105,110,115,101,114,116],
 [100,101,108,101,116,101],
 [117,112,100,97,116,101],
 [115,117,109,109,97,114,121],
 [111,110],
 [98,121],
 [107,101,101,112],
 [100,114,111,112],
 [102,114,111,109],
 [119,104,101,114,101],
 [97,110,100],
 [105,115],
 [110,111,116],
 [110,117,108,108],
 [114,111,108,108,117,112],
 [99,117,98,101],
 [115,104,111,119],
 [104,97,118,105,110,103],
 [111,114,100,101,114],
 [100,101,115,99],
 [108,105,109,105,116],
 [117,115,105,110,103],
 [98,97,115,101],
 [99,111,117,110,116],
 [115,117,109],
 [109,105,110],
 [109,97,120],
 [97,118,103],
 [100,105,115,116,105,110,99,116],
 [114,111,119,115]]
def tr(l:List UInt8):Bool:=kws.any (fun x=>l==x)
def ltr(c:UInt8):Bool:=c.toNat==95 || (decide (97<=c.toNat)&&decide (c.toNat<=122))
def dgt(c:UInt8):Bool:=decide (48<=c.toNat)&&decide (c.toNat<=57)
def dh:List UInt8->Bool
 | []=>false
 | c::r=>ltr c&&r.all fun c=>ltr c || dgt c
def j'(l:List UInt8):Bool:=decide (l.length<=12)&&dh l&&!tr l
theorem It(c:UInt8)(h:dgt c=true):ltr c=false:=by
 unfold dgt at h;unfold ltr
 simp at h
 simp
 omega
theorem sK(l:List UInt8)(c:UInt8)(h:dh l=true):dh (l++[c])=(ltr c || dgt c):=by
 cases l with
 | nil=>simp[dh]at h
 | cons x r =>
  simp only[dh,zy]at h;simp[dh,h.1,List.all_append,h.2]
theorem eO(l:List UInt8)(k:Nat)(c:UInt8)(hc:l[k]?=some c)(hb:ltr c=false)(a:dgt c=false∨k=0):dh l=false:=by
 cases l with
 | nil=>simp at hc
 | cons x r =>
  simp only[dh,Bool.and_eq_false_iff];cases k with
  | zero =>
   simp at hc;subst hc;exact .inl hb
  | succ k =>
   right
   rw[List.all_eq_false];rcases a with a|a
   ·have:r[k]?=some c:=(by simpa using hc);exact⟨c,List.mem_of_getElem? this,by simp[hb,a]⟩
   ·omega
theorem Ii(l:List UInt8)(h1:¬ l.length<1)(h2:¬ 12<l.length)(c:UInt8)(hc:l[0]?=some c)(h3:dgt c=false)(h4:tr l=false)(h5:l.all (fun c=>ltr c || dgt c)=true):j' l=true:=by
 cases l with
 | nil=>simp at h1
 | cons x r =>
  simp at hc;subst hc;simp only[List.all_cons,zy,wh,h3,Bool.false_eq_true,or_false]at h5;simp only[j',dh,h4,h5.1,h5.2];simp at h2 ⊢;omega
theorem mR(l:List UInt8)(h:l.length<1∨12<l.length∨tr l=true):j' l=false:=by
 unfold j';rcases h with h|h|h
 ·have:l=[]:=wg (by omega);subst this;simp[dh]
 ·have:¬ l.length<=12:=(by omega);simp[this]
 simp[h]
theorem sM(l:List UInt8)(c:UInt8)(hc:l[0]?=some c)(h:dgt c=true):j' l=false:=by
 unfold j';rw[eO l 0 c hc (It c h) (.inr rfl)];simp
theorem Iy(l:List UInt8)(k:Nat)(c:UInt8)(hc:l[k]?=some c)(h1:ltr c=false)(h2:dgt c=false):j' l=false:=by
 unfold j';rw[eO l k c hc h1 (.inl h2)];simp
theorem GT{l x:List UInt8}(h:(l==x)=true)(hx:x∈kws):true=tr l:=by
 unfold tr;rw[eq_comm,vd];exact⟨x,hx,h⟩
theorem kC(s:ByteArray)(w:World):Calls prog 200 #[.string s] w fun e w'=>e=.returned (.bool (tr s.data.toList))/\w=w':=by
 rw[<-wj];go_enter func200,ntmps200
 go_wp2
 all_goals go_ret
 all_goals refine⟨aH ?_,rfl⟩
 all_goals first
  | exact GT (by assumption) (by decide)
  | (exact absurd (Eq.trans (Eq.symm (by assumption:(_==_)=true)) (by assumption)) (by decide))
  | (rw[eq_comm];unfold tr kws;simp only[List.any_cons,List.any_nil,Bool.or_false,Bool.or_eq_false_iff];(repeat' apply ab) <;> assumption)
theorem lD{c:UInt8}(h:c.toNat=95∨(97<=c.toNat/\c.toNat<=122)):ltr c=true:=by
 unfold ltr;rcases h with h|h <;> simp <;> omega
theorem gL{c:UInt8}(h:c.toNat≠95)(h2:c.toNat<97∨122<c.toNat):ltr c=false:=by
 unfold ltr;simp;omega
theorem Gk{c:UInt8}(h:48<=c.toNat)(h2:c.toNat<=57):dgt c=true:=by
 unfold dgt;simp;omega
theorem mS{c:UInt8}(h:c.toNat<48∨57<c.toNat):dgt c=false:=by
 unfold dgt;simp;omega
theorem EX{c:UInt8}(h:¬ c.toNat<48):decide ((c.toNat:Int)<=57)=dgt c:=by
 unfold dgt;rw[wu];simp;omega
theorem BB(s:ByteArray)(k:Nat)(h:k<s.size):s.data.toList[k]?=some s[k]:=by
 have a:k<s.data.size:=h;rw[Array.getElem?_toList,Array.getElem?_eq_getElem a];rfl
theorem gM(s:ByteArray)(k:Nat)(h:k<s.size)(b:k=0∨dh (s.data.toList.take k)=true)(a:ltr s[k]=true∨(dgt s[k]=true/\k≠0)):k+1=0∨dh (s.data.toList.take (k+1))=true:=by
 right
 rw[mQ s k h];rcases b with b|b
 ·subst b;rcases a with a|a
  ·simp[dh,a]
  exact absurd rfl a.2
 rw[sK _ _ b];rcases a with a|a
 ·simp[a]
 simp[a.1]
theorem ID(s:ByteArray)(c:s.size=0∨dh (s.data.toList.take s.size)=true):(!s.toList.isEmpty)=dh s.data.toList:=by
 rw[wj];rw[yu (by simp)]at c;rcases c with c|c
 ·have:s.data.toList=[]:=wg (by simpa using c);rw[this];rfl
 cases h:s.data.toList with
 | nil=>rw[h]at c;simp[dh]at c
 | cons a b=>rw[h]at c;rw[c];rfl
theorem kD(s:ByteArray)(w:World)(hs:s.size<=maxLen):Calls prog 199 #[.string s] w fun e w'=>e=.returned (.bool (dh s.data.toList))/\w=w':=by
 unfold maxLen at hs;go_enter func199,ntmps199
 go_wp2
 go_loop [3] (fun i=>∃k:Nat,k<=s.size/\i=.int .i64 k/\(k=0∨dh (s.data.toList.take k)=true)) (fun i=>s.size-(intOf i).toNat)
 case atStart=>exact⟨0,zj _,rfl,.inl rfl⟩
 obtain⟨k,n,rfl,c⟩:=hrel;have H:=aa c;clear c;by_cases b:k<s.size
 ·have d:ltr s[k]=false->(dgt s[k]=false∨k=0)->false=dh s.data.toList:=(fun h j=>(eO _ k _ (BB s k b) h j).symm);have a:=aa d;clear d;by_cases c1:s[k].toNat<48
  ·have f:((s[k].toNat:Int)==95)=false:=beq_eq_false_iff_ne.2 (by omega)
   go_wp2
   go_ret;exact⟨aH (a.out (gL (by omega) (by omega)) (.inl (mS (by omega)))),rfl⟩
  by_cases c2:s[k].toNat<=57
  ·have f:((s[k].toNat:Int)==95)=false:=beq_eq_false_iff_ne.2 (by omega);by_cases g:k=0
   ·subst g
    go_wp2
    go_ret;exact⟨aH (a.out (gL (by omega) (by omega)) (.inr (by trivial))),rfl⟩
   have o:((k:Int)==0)=false:=beq_eq_false_iff_ne.2 (by omega)
   go_wp2
   exact⟨⟨k+1,by omega,by go_num,gM s k b H.out (.inr ⟨Gk (by omega) (by omega),g⟩)⟩,by simp[intOf];omega⟩
  by_cases c3:s[k].toNat<95
  ·have f:((s[k].toNat:Int)==95)=false:=beq_eq_false_iff_ne.2 (by omega)
   go_wp2
   go_ret;exact⟨aH (a.out (gL (by omega) (by omega)) (.inl (mS (by omega)))),rfl⟩
  by_cases c4:s[k].toNat=95
  ·have f:((s[k].toNat:Int)==95)=true:=beq_iff_eq.2 (by omega);have l:=aa c4;have m:s[k].toNat<97:=(by omega);clear c4
   go_wp2
   exact⟨⟨k+1,by omega,by go_num,gM s k b H.out (.inl (lD (.inl l.out)))⟩,by simp[intOf];omega⟩
  have f:((s[k].toNat:Int)==95)=false:=beq_eq_false_iff_ne.2 (by omega);by_cases m:s[k].toNat<97
  ·go_wp2
   go_ret;exact⟨aH (a.out (gL (by omega) (by omega)) (.inl (mS (by omega)))),rfl⟩
  by_cases p:s[k].toNat<=122
  ·go_wp2
   exact⟨⟨k+1,by omega,by go_num,gM s k b H.out (.inl (lD (.inr ⟨by omega,by omega⟩)))⟩,by simp[intOf];omega⟩
  have q:decide ((s[k].toNat:Int)<=122)=false:=yp (by omega)
  go_wp2
  go_ret;exact⟨aH (a.out (gL (by omega) (by omega)) (.inl (mS (by omega)))),rfl⟩
 obtain rfl:k=s.size:=by omega
 go_wp2
 go_ret;exact⟨aH (ID s H.out),rfl⟩
theorem ES(s:ByteArray)(w:World)(hs:s.size<=maxLen):Calls prog 176 #[.string s] w fun e w'=>e=.returned (.bool (j' s.data.toList))/\w=w':=by
 have d:s.data.toList.length=s.size:=(by simp);have f:=aa d;clear d;by_cases a:s.size<=12
 ·by_cases b:dh s.data.toList=true
  ·go_enter func176,ntmps176
   go_wp2_with (first|(go_at_call 199;refine(kD _ _ hs).mono ?_;rintro e w'⟨rfl,rfl⟩)|(go_at_call 200;refine(kC _ _).mono ?_;rintro e w'⟨rfl,rfl⟩))
   go_ret;exact⟨aH (by unfold j';rw[b,f.out];simp[a]),rfl⟩
  have c:dh s.data.toList=false:=(by simpa using b);go_enter func176,ntmps176
  go_wp2_with (first|(go_at_call 199;refine(kD _ _ hs).mono ?_;rintro e w'⟨rfl,rfl⟩)|(go_at_call 200;refine(kC _ _).mono ?_;rintro e w'⟨rfl,rfl⟩))
  go_ret;exact⟨aH (by unfold j';rw[c];simp),rfl⟩
 go_enter func176,ntmps176
 go_wp2
 go_ret;exact⟨aH (by unfold j';rw[f.out];simp[a]),rfl⟩
theorem gN(c:UInt8)(w:World):Calls prog 182 #[.int .u8 (c.toNat:Int)] w fun e w'=>e=.returned (.bool (ltr c))/\w=w':=by
 by_cases a:c.toNat=95
 ·have b:((c.toNat:Int)==95)=true:=beq_iff_eq.2 (by omega);have H:=aa a;clear a;go_enter func182,ntmps182
  go_wp2
  go_ret;exact⟨aH (lD (.inl H.out)).symm,rfl⟩
 have b:((c.toNat:Int)==95)=false:=beq_eq_false_iff_ne.2 (by omega);by_cases d:c.toNat<97
 ·go_enter func182,ntmps182
  go_wp2
  go_ret;exact⟨aH (gL a (.inl d)).symm,rfl⟩
 by_cases f:c.toNat<=122
 ·go_enter func182,ntmps182
  go_wp2
  go_ret;exact⟨aH (by rw[lD (.inr ⟨by omega,f⟩)];simp;omega),rfl⟩
 go_enter func182,ntmps182
 go_wp2
 go_ret;exact⟨aH (by rw[gL a (.inr (by omega))];simp;omega),rfl⟩
theorem cT(c:UInt8)(w:World):Calls prog 180 #[.int .u8 (c.toNat:Int)] w fun e w'=>e=.returned (.bool (dgt c))/\w=w':=by
 by_cases a:c.toNat<48
 ·go_enter func180,ntmps180
  go_wp2
  go_ret;exact⟨aH (mS (.inl a)).symm,rfl⟩
 go_enter func180,ntmps180
 go_wp2
 go_ret;exact⟨aH (EX a),rfl⟩
theorem EZ(k:Nat)(l:List UInt8)(hk:k<38)(h:(kws.getD k []==l)=true):true=tr l:=by
 have a:k<kws.length:=hk;have e:kws.getD k []=kws[k]:=(by rw[zv,z6 a];rfl);rw[e]at h;have b:kws[k]=l:=(by simpa using h);unfold tr;rw[eq_comm,vd];exact⟨kws[k],z8 _,by simp[b]⟩
theorem G2(l:List UInt8)(h:∀j,j<38->(kws.getD j []==l)=false):false=tr l:=by
 unfold tr;rw[eq_comm,v6];intro x c a;obtain⟨j,b,rfl⟩:=xp c
 have:=h j b
 rw[zv,z6 b]at this;have d:l=kws[j]:=(by simpa using a);simp[d]at this
def rj:Array Value:=(kws.map fun l=>Value.string ⟨l.toArray⟩).toArray
theorem vR(k:Nat)(hk:k<38):rj[k]?=some (.string ⟨(kws.getD k []).toArray⟩):=by
 have a:k<kws.length:=hk;unfold rj;rw[List.getElem?_toArray,xe,zv,z6 a];rfl
theorem mT(s:ByteArray)(w:World):Calls prog 181 #[.string s] w fun e w'=>e=.returned (.bool (tr s.data.toList))/\Below w.heap.size w w':=by
 rw[<-wj];go_enter func181,ntmps181
 go_wp2
 generalize g:w.alloc (Obj.cells #[.string { data:=#[116,97,98,108,101] },.string { data:=#[107,101,121] },.string { data:=#[102,100] },.string { data:=#[105,110,116] },.string { data:=#[116,101,120,116] },.string { data:=#[109,117,115,116] },.string { data:=#[116,111] },.string { data:=#[108,111,97,100] },.string { data:=#[105,110,115,101,114,116] },.string { data:=#[100,101,108,101,116,101] },.string { data:=#[117,112,100,97,116,101] },.string { data:=#[115,117,109,109,97,114,121] },.string { data:=#[111,110] },.string { data:=#[98,121] },.string { data:=#[107,101,101,112] },.string { data:=#[100,114,111,112] },.string { data:=#[102,114,111,109] },.string { data:=#[119,104,101,114,101] },.string { data:=#[97,110,100] },.string { data:=#[105,115] },.string { data:=#[110,111,116] },.string { data:=#[110,117,108,108] },.string { data:=#[114,111,108,108,117,112] },.string { data:=#[99,117,98,101] },.string { data:=#[115,104,111,119] },.string { data:=#[104,97,118,105,110,103] },.string { data:=#[111,114,100,101,114] },.string { data:=#[100,101,115,99] },.string { data:=#[108,105,109,105,116] },.string { data:=#[117,115,105,110,103] },.string { data:=#[98,97,115,101] },.string { data:=#[99,111,117,110,116] },.string { data:=#[115,117,109] },.string { data:=#[109,105,110] },.string { data:=#[109,97,120] },.string { data:=#[97,118,103] },.string { data:=#[100,105,115,116,105,110,99,116] },.string { data:=#[114,111,119,115] }] 9)=W;have m:Below w.heap.size w W:=by rw[<-g];exact aD _ _
 have n:∀k,k<38->W.cell? ⟨w.heap.size,k,none⟩=some (.string ⟨(kws.getD k []).toArray⟩):=by
  intro k o;rw[<-g];rw[show(Obj.cells #[.string { data:=#[116,97,98,108,101] },.string { data:=#[107,101,121] },.string { data:=#[102,100] },.string { data:=#[105,110,116] },.string { data:=#[116,101,120,116] },.string { data:=#[109,117,115,116] },.string { data:=#[116,111] },.string { data:=#[108,111,97,100] },.string { data:=#[105,110,115,101,114,116] },.string { data:=#[100,101,108,101,116,101] },.string { data:=#[117,112,100,97,116,101] },.string { data:=#[115,117,109,109,97,114,121] },.string { data:=#[111,110] },.string { data:=#[98,121] },.string { data:=#[107,101,101,112] },.string { data:=#[100,114,111,112] },.string { data:=#[102,114,111,109] },.string { data:=#[119,104,101,114,101] },.string { data:=#[97,110,100] },.string { data:=#[105,115] },.string { data:=#[110,111,116] },.string { data:=#[110,117,108,108] },.string { data:=#[114,111,108,108,117,112] },.string { data:=#[99,117,98,101] },.string { data:=#[115,104,111,119] },.string { data:=#[104,97,118,105,110,103] },.string { data:=#[111,114,100,101,114] },.string { data:=#[100,101,115,99] },.string { data:=#[108,105,109,105,116] },.string { data:=#[117,115,105,110,103] },.string { data:=#[98,97,115,101] },.string { data:=#[99,111,117,110,116] },.string { data:=#[115,117,109] },.string { data:=#[109,105,110] },.string { data:=#[109,97,120] },.string { data:=#[97,118,103] },.string { data:=#[100,105,115,116,105,110,99,116] },.string { data:=#[114,111,119,115] }] 9)=Obj.cells rj 9 from rfl,World.cell?_alloc_mark];exact vR k o
 have p:=aa n;clear n g
 go_loop [4] (fun i=>∃k:Nat,k<=38/\i=.int .i64 k/\∀j,j<k->(kws.getD j []==s.toList)=false) (fun i=>106-(intOf i).toNat)
 case atStart=>exact⟨0,zj _,rfl,fun j q=>by omega⟩
 obtain⟨k,o,rfl,a⟩:=hrel;have H:=aa a;clear a;by_cases d:k<38
 ·have f:=p.out k d;cases c:kws.getD k []==s.toList
  ·have l:=aa c;have b:(({ data:=(kws.getD k []).toArray }:ByteArray).toList==s.toList)=false:=(by rw[wj];simpa using c);clear c;generalize ({ data:=(kws.getD k []).toArray }:ByteArray)=kk at f b
   go_wp2
   exact⟨⟨k+1,by omega,by go_num,fun j q=>by rcases(by omega:j<k∨j=k)with h|rfl;exact H.out j h;exact l.out⟩,by simp[intOf];omega⟩
  have l:=aa c;have b:(({ data:=(kws.getD k []).toArray }:ByteArray).toList==s.toList)=true:=(by rw[wj];simpa using c);clear c;generalize ({ data:=(kws.getD k []).toArray }:ByteArray)=kk at f b
  go_wp2
  go_ret;exact⟨aH (EZ k _ d l.out),m⟩
 obtain rfl:k=38:=by omega
 go_wp2
 go_ret;exact⟨aH (G2 _ H.out),m⟩
def lf(c:UInt8):Bool:=ltr c || dgt c
theorem sO(s:ByteArray)(k:Nat)(h:k<s.size)(hb:lf s[k]=true)(ha:(s.data.toList.take k).all lf=true):(s.data.toList.take (k+1)).all lf=true:=by
 rw[mQ s k h,List.all_append,ha];simp[hb]
theorem sP(s:ByteArray)(w:World)(hs:s.size<=maxLen):Calls prog 151 #[.string s] w fun e w'=>e=.returned (.bool (j' s.data.toList))/\Below w.heap.size w w':=by
 unfold maxLen at hs;have n:s.data.toList.length=s.size:=(by simp);have d:=aa n;clear n;by_cases o:s.size<1
 ·go_enter func151,ntmps151
  go_wp2
  go_ret;exact⟨aH (mR _ (.inl (by rw[d.out];exact o))).symm,zg _ _⟩
 by_cases p:12<s.size
 ·go_enter func151,ntmps151
  go_wp2
  go_ret;exact⟨aH (mR _ (.inr (.inl (by rw[d.out];exact p)))).symm,zg _ _⟩
 have t:0<s.size:=(by omega);have e0:=BB s 0 t;have q:=aa e0;clear e0;cases g:dgt s[0]
 ·have h:=aa g;cases f:tr s.data.toList
  ·have j:=aa f;go_enter func151,ntmps151
   go_wp2_with (first|(go_at_call 180;refine(cT _ _).mono ?_;rintro e w'⟨rfl,rfl⟩)|(go_at_call 181;refine(mT _ _).mono ?_;rintro e w'⟨rfl,c⟩))
   rename_i W;clear g f
   go_loop [3] (fun i=>∃k:Nat,k<=s.size/\i=.int .i64 k/\(s.data.toList.take k).all lf=true) (fun i=>s.size-(intOf i).toNat)
   case atStart=>exact⟨0,zj _,rfl,by simp⟩
   obtain⟨k,f,rfl,a⟩:=hrel;have H:=aa a;clear a;by_cases b:k<s.size
   ·cases c1:ltr s[k]
    ·have l:=aa c1;cases c2:dgt s[k]
     ·have m:=aa c2
      go_wp2_with (first|(go_at_call 182;refine(gN _ _).mono ?_;rintro e w'⟨rfl,rfl⟩)|(go_at_call 180;refine(cT _ _).mono ?_;rintro e w'⟨rfl,rfl⟩))
      go_ret;exact⟨aH (Iy _ k _ (BB s k b) l.out m.out).symm,c⟩
     have m:=aa c2
     go_wp2_with (first|(go_at_call 182;refine(gN _ _).mono ?_;rintro e w'⟨rfl,rfl⟩)|(go_at_call 180;refine(cT _ _).mono ?_;rintro e w'⟨rfl,rfl⟩))
     exact⟨⟨k+1,by omega,by go_num,sO s k b (by unfold lf;rw[m.out];simp) H.out⟩,by simp[intOf];omega⟩
    have l:=aa c1
    go_wp2_with (first|(go_at_call 182;refine(gN _ _).mono ?_;rintro e w'⟨rfl,rfl⟩)|(go_at_call 180;refine(cT _ _).mono ?_;rintro e w'⟨rfl,rfl⟩))
    exact⟨⟨k+1,by omega,by go_num,sO s k b (by unfold lf;rw[l.out];simp) H.out⟩,by simp[intOf];omega⟩
   obtain rfl:k=s.size:=by omega
   go_wp2
   go_ret
   exact⟨aH (by
    have r:=H.out;rw[yu (by simp)]at r;exact(Ii _ (by rw[d.out];exact o) (by rw[d.out];exact p) _ q.out h.out j.out r).symm),c⟩
  have j:=aa f;go_enter func151,ntmps151
  go_wp2_with (first|(go_at_call 180;refine(cT _ _).mono ?_;rintro e w'⟨rfl,rfl⟩)|(go_at_call 181;refine(mT _ _).mono ?_;rintro e w'⟨rfl,c⟩))
  go_ret;exact⟨aH (mR _ (.inr (.inr j.out))).symm,c⟩
 have h:=aa g;go_enter func151,ntmps151
 go_wp2_with (first|(go_at_call 180;refine(cT _ _).mono ?_;rintro e w'⟨rfl,rfl⟩)|(go_at_call 181;refine(mT _ _).mono ?_;rintro e w'⟨rfl,c⟩))
 go_ret;exact⟨aH (sM _ _ q.out h.out).symm,zg _ _⟩
theorem sQ(a:ByteArray):ip a a=true:=eJ.2 rfl
theorem iN(a b:ByteArray):ip a b=ip b a:=by
 rw[wu,eJ,eJ];exact eq_comm
section
variable{α:Type}{p:α->Bool}
theorem jM(l:List α):l.any p=(l.find? p).isSome:=by
 induction l with
 | nil=>rfl
 | cons a r ih =>
  rw[List.any_cons,List.find?_cons];cases h:p a <;> simp[ih]
theorem iP(l:List α):match l.findIdx? p with|none=>l.find? p=none|some j=>∃h:j<l.length,l.find? p=some l[j]/\p l[j]=true:=by
 induction l with
 | nil=>rfl
 | cons a r ih =>
  rw[List.findIdx?_cons];cases h:p a
  ·simp only[Bool.false_eq_true,if_false];cases b:r.findIdx? p with
   | none=>rw[b]at ih;rw[List.find?_cons,h];exact ih
   | some j =>
    rw[b]at ih;obtain⟨c,d,e⟩:=ih;exact⟨by simpa using c,by rw[List.find?_cons,h];exact d,e⟩
  ·simp only[if_true];exact⟨by simp,by rw[List.find?_cons,h];rfl,h⟩
end
theorem bQ{n:Nat}{f:Nat->Bool}(h:∀j,j<n->f j=true):(List.range n).all f=true:=by
 rw[xi];intro x a;exact h x (List.mem_range.1 a)
theorem bC{n:Nat}{f:Nat->Bool}(j:Nat)(hj:j<n)(h:f j=false):(List.range n).all f=false:=by
 rw[List.all_eq_false];exact⟨j,List.mem_range.2 hj,by simp[h]⟩
def jz(l:List T)(x:ByteArray):Int:=match l.findIdx? (qb x)with|none=>-1|some j=>(j:Int)
def At(l:List ByteArray)(x:ByteArray):Int:=match l.findIdx? (ip x)with|none=>-1|some j=>(j:Int)
def named(x:ByteArray):Bool:=j' x.data.toList
def lim(ts:List T)(t:T):Bool:=decide (8<=ts.length) || (decide (t.cols.length<1) || (decide (6<t.cols.length) || decide (3<t.deps.length)))
def js(l:List C)(j:Nat):Bool:=match l[j]? with|some c=>named c.nm&&!cp (l.take j) c.nm|none=>true
def jl(l:List C):Bool:=(List.range l.length).all (js l)
def bm(t:T):Bool:=ip t.key e0 || cp t.cols t.key
def mc(l:List C)(left:List ByteArray)(k:Nat):Bool:=match left[k]? with|some x=>cp l x&&!ja (left.take k) x|none=>true
def fm(l:List C)(left:List ByteArray):Bool:=(decide (1<=left.length)&&decide (left.length<=3))&&(List.range left.length).all (mc l left)
def qa(l:List C)(d:D):Bool:=fm l d.left&&(cp l d.right&&!ja d.left d.right)
def jo(l:List C)(ds:List D)(j:Nat):Bool:=match ds[j]? with|some d=>qa l d|none=>true
def jd(l:List C)(ds:List D):Bool:=(List.range ds.length).all (jo l ds)
def free(ts:List T)(x:ByteArray):Bool:=named x&&!fe ts x
def aq(ts:List T)(t:T):Bool:=free ts t.nm&&(jl t.cols&&(bm t&&jd t.cols t.deps))
def oo(l:List C)(j:Nat):Bool:=match l[j]? with|some c=>decide (c.kd=1∨c.kd=2) | none=>true
def db(l:List C):Bool:=(List.range l.length).all (oo l)
def leads(ts:List T)(c:C):Int:=if ip c.tgt e0=true then 0 else match bg ts c.tgt with|none=>3|some t=>match dt t.cols t.key with|none=>9|some k=>if k.kd=c.kd then 0 else 4
def dc:List Int->Int
 | []=>0
 | x::r=>if x=0 then dc r else x
def dg(ts:List T)(t:T):Int:=if lim ts t=true then 5 else if aq ts t=true then(if db t.cols=true then dc (t.cols.map (leads ts))else 4)else 3
def si(ts:List T)(t:T):List T:=if dg ts t=0 then ts++[bj t]else ts
theorem fD:∀(l:List Int) (j:Nat) (h:j<l.length),l[j]≠0->(∀i (c:i<j),l[i]'(by omega)=0)->dc l=l[j]
 | [],j,h,_,_=>absurd h (yh j)
 | a::r,0,_,b,_=>by
  have b:a≠0:=b;simp[dc,b]
 | a::r,j+1,h,b,hn=>by
  have d:a=0:=hn 0 (by omega);have e:j<r.length:=by simpa using h
  have:=fD r j e b (fun i c=>hn (i+1) (by omega))
  rw[dc,zw d];exact this
theorem dS:∀(l:List Int),(∀i (b:i<l.length),l[i]=0)->dc l=0
 | [],_=>rfl
 | a::r,h=>by
  have c:a=0:=h 0 (by simp);rw[dc,zw c];exact dS r (fun i b=>h (i+1) (by simpa using b))
structure ls (ts:List T):Prop where
 len:ts.length<=8
 col:∀t∈ts,∀c∈t.cols,named c.nm=true
 key:∀t∈ts,bm t=true
 one:∀i (hi:i<ts.length),bg ts ts[i].nm=some ts[i]/\jz ts ts[i].nm=(i:Int)
theorem Gw:named e0=false:=rfl
theorem DU{x:ByteArray}(h:named x=true):ip x e0=false:=by
 cases a:ip x e0
 ·rfl
 rw[eJ]at a;subst a;exact absurd h (by rw[Gw];decide)
theorem DD{l:List C}(h:∀c∈l,named c.nm=true):dt l e0=none:=by
 unfold dt;rw[vz];intro c a;unfold mw;rw[DU (h c a)];decide
theorem fT{ts:List T}{t:T}(h:dg ts t=0):lim ts t=false/\aq ts t=true/\db t.cols=true/\dc (t.cols.map (leads ts))=0:=by
 unfold dg at h;split at h
 ·omega
 split at h
 ·split at h
  ·rename_i a b c;exact⟨by simpa using a,b,c,h⟩
  omega
 omega
section
variable{W W':World}{v:Value}{n k:Nat}{xs:List Value}
end
def dy(c:C):Value:=.agg #[.string c.nm,.int .i64 c.kd,.bool c.mu,.string c.tgt]
def dx:C:=⟨e0,0,false,e0⟩
def sg(o:Option C):C:=o.getD dx
theorem gO{l:List C}{v:Value}{x:ByteArray}{W:World}(h:fj W v l):Calls prog 85 #[v,.string x] W fun e w'=>e=.returned (.tuple #[dy (sg (dt l x)),.bool (cp l x)])/\Below W.heap.size W w':=by
 obtain⟨p,cap,rfl,V,X⟩:=h.slice;obtain⟨n,A⟩:=ae l.length;unfold maxLen at X;rw[A]at V ⊢;rw[A]at h;obtain⟨S,U⟩:=ae W.heap.size;have Y:=aa h;have g:=aa (ab A U);clear h A;go_enter func85,ntmps85;go_wp2_with fail;clear U;go_loopg [10] (n+1) (fun Z jv w=>∃(j:Nat),jv=.int .i64 (j:Int)/\j<=n/\n+1<=j+Z/\(∀i (h:i<l.length),i<j->mw x l[i]=false)/\Below (S+1) (W.alloc (.cells #[.string e0,.int .i64 0,.bool false,.string e0] 107)) w)
 case atStart=>exact⟨0,rfl,zj _,by omega,fun i _ q=>by omega,zg _ _⟩
 obtain⟨j,rfl,hj,hg,s,t⟩:=hrel;have B:(W.alloc (.cells #[.string e0,.int .i64 0,.bool false,.string e0] 107)).heap[S]?=some (.cells #[.string e0,.int .i64 0,.bool false,.string e0] 107):=(by rw[<-g.2];exact z7 W _);have a:=(t.block S (IW S)).trans B;have k:Below W.heap.size W wr:=(aD W _).trans (t.mono (by rw[g.2];omega));have E:S+1<=wr.heap.size:=(by have:=t.size;rw[zm,g.2]at this;exact this);have m:=aa (ab s (ab t (ab k E)));clear s t;by_cases y:j<n
 ·have F:j<l.length:=(by rw[g.1];exact y);obtain⟨b,a0,rfl,hb,c0,c1,c2,c3⟩:=fj.col (Y.out.later k) F;clear k;obtain⟨c,o⟩:=ae (l[j]);rw[o]at c0 c1 c2 c3;have G:=aa o;clear o;cases r:mw x c
  ·have H:=aa r;have I:(c.nm.toList==x.toList)=false:=(by rw[aQ];exact r);clear r;go_wp2_with fail;go_roundg (n-j)
   case measure=>omega
   refine⟨j+1,by go_num,by omega,by omega,fun i q a1=>?_,m.2.1.alloc m.2.2.2 _⟩;by_cases e:i=j
   ·subst e;rw[G.out];exact H.out
   exact m.1 i q (by omega)
  have H:=aa r;have I:(c.nm.toList==x.toList)=true:=(by rw[aQ];exact r);have z0:=aA a 0;have z1:=aA a 1;have z2:=aA a 2;have z3:=aA a 3;have zf:∀i,wr.frozen? ⟨S,i,none⟩=false:=(fun i=>zq wr S i _ _ a);have J:S<wr.heap.size:=aB a;have L:=aa a;clear r a;go_wp2_with fail;have d:=cR (u:=.cells #[.string c.nm,.int .i64 c.kd,.bool c.mu,.string c.tgt] 107) (mn L.out (.string c.nm) (.int .i64 c.kd) (.bool c.mu) (.string c.tgt));have f:=bB m.2.2.1 (show W.heap.size<=S by rw[g.2];exact zo _) (.string c.nm) (.int .i64 c.kd) (.bool c.mu) (.string c.tgt);have z:=f.alloc f.size (.cells #[.string c.nm,.int .i64 c.kd,.bool c.mu,.string c.tgt] 107);generalize ((((wr.setCell _ _).setCell _ _).setCell _ _).setCell _ _).alloc _=wz at d z ⊢;have M:=aA d 0;have N:=aA d 1;have O:=aA d 2;have P:=aA d 3;obtain⟨Q,R,_⟩:=dT (p:=mw x) l j (by rw[g.1];exact y) (by rw[G.out];exact H.out) (fun i q=>m.1 i _ q);refine y8 (v:=.tuple #[dy c,.bool true]) (by simp[results,results85,go_sem,M,N,O,P,dy]) rfl ?_;refine⟨?_,z⟩;unfold dt cp sg;rw[Q,R,G.out];rfl
 have z0:=aA a 0;have z1:=aA a 1;have z2:=aA a 2;have z3:=aA a 3;have zf:∀i,wr.frozen? ⟨S,i,none⟩=false:=(fun i=>zq wr S i _ _ a);have J:S<wr.heap.size:=aB a;have L:=aa a;clear a;go_wp2_with fail;have d:=mn L.out (.string e0) (.int .i64 0) (.bool false) (.string e0);have f:=bB m.2.2.1 (show W.heap.size<=S by rw[g.2];exact zo _) (.string e0) (.int .i64 0) (.bool false) (.string e0);generalize (((wr.setCell _ _).setCell _ _).setCell _ _).setCell _ _=wz at d f ⊢;have M:=aA d 0;have N:=aA d 1;have O:=aA d 2;have P:=aA d 3;obtain⟨Q,R,_⟩:=iH (p:=mw x) l (fun i q=>m.1 i q (by have:=g.1;omega));refine y8 (v:=.tuple #[dy dx,.bool false]) (by simp[results,results85,go_sem,M,N,O,P,dy,dx]) rfl ?_;refine⟨?_,f⟩;unfold dt cp sg;rw[Q,R];rfl
theorem yE{l:List C}{v:Value}{x:ByteArray}{W:World}(h:fj W v l):Calls prog 177 #[v,.string x] W fun e w'=>e=.returned (.bool (cp l x))/\Below W.heap.size W w':=by
 have a:=gO (x:=x) h;obtain⟨p,cap,rfl,_,_⟩:=h.slice;generalize sg (dt l x)=c at a;generalize cp l x=r at a ⊢;unfold dy at a;clear h;go_enter func177,ntmps177;go_wp2_with (go_at_call 85;refine a.mono ?_;rintro e d⟨rfl,b⟩);go_ret;exact⟨rfl,b.alloc b.size _⟩
theorem Io{l:List ByteArray}{x:ByteArray}(j:Nat)(h:j<l.length)(hp:ip x l[j]=true)(hn:∀i (hi:i<j),ip x (l[i]'(by omega))=false):At l x=(j:Int)/\ja l x=true:=by
 obtain⟨_,a,b⟩:=dT (p:=ip x) l j h hp hn;unfold At ja;rw[b];exact⟨rfl,a⟩
theorem D0{l:List ByteArray}{x:ByteArray}(hn:∀i (hi:i<l.length),ip x l[i]=false):At l x=-1/\ja l x=false:=by
 obtain⟨_,a,b⟩:=iH (p:=ip x) l hn;unfold At ja;rw[b];exact⟨rfl,a⟩
theorem G3(l:List ByteArray)(x:ByteArray):decide (0<=At l x)=ja l x:=by
 unfold At ja;rw[jM]
 have:=iP (p:=ip x) l
 cases h:l.findIdx? (ip x)with
 | none=>rw[h]at this;simp only at this;rw[this];rfl
 | some j=>rw[h]at this;obtain⟨b,a,c⟩:=this;rw[a];simp
theorem G7{l:List ByteArray}{v:Value}{x:ByteArray}{W:World}(h:kh W v l):Calls prog 201 #[v,.string x] W fun e w'=>e=.returned (.int .i64 (At l x))/\w'=W:=by
 obtain⟨p,cap,rfl,y,z⟩:=h.slice;obtain⟨n,m⟩:=ae l.length;unfold maxLen at z;rw[m]at y ⊢;rw[m]at h;have A:=aa h;have o:=aa m;clear h m;go_enter func201,ntmps201;go_wp2_with fail;go_loopg [5,8] (n+1) (fun B _ E w=>∃(j:Nat),E=.int .i64 (j:Int)/\j<=n/\n+1<=j+B/\(∀i (h:i<l.length),i<j->ip x l[i]=false)/\w=W)
 case atStart=>exact⟨0,rfl,zj _,by omega,fun i _ d=>by omega,rfl⟩
 obtain⟨j,rfl,H,I,g,rfl⟩:=hrel;have q:=aa g;clear g;by_cases k:j<n
 ·have r:j<l.length:=(by rw[o.out];exact k);obtain⟨b,F,rfl,J,c0⟩:=kh.word A.out r;obtain⟨c,a⟩:=ae (l[j]);rw[a]at c0;have u:=aa a;clear a;cases f:ip x c
  ·have s:=aa f;have t:(x.toList==c.toList)=false:=(by rw[aQ];exact f);clear f;go_wp2_with fail;go_roundg (n-j)
   case measure=>omega
   refine⟨j+1,by go_num,by omega,by omega,fun i d G=>?_,rfl⟩;by_cases e:i=j
   ·subst e;rw[u.out];exact s.out
   exact q.out i d (by omega)
  have s:=aa f;have t:(x.toList==c.toList)=true:=(by rw[aQ];exact f);clear f;go_wp2_with fail;go_ret;exact⟨aP (Io j (by rw[o.out];exact k) (by rw[u.out];exact s.out) (fun i d=>q.out i _ d)).1.symm,rfl⟩
 go_wp2_with fail;go_ret;exact⟨aP (D0 (fun i d=>q.out i d (by have:=o.out;omega))).1.symm,rfl⟩
theorem iQ{l:List ByteArray}{v:Value}{x:ByteArray}{W:World}(h:kh W v l):Calls prog 179 #[v,.string x] W fun e w'=>e=.returned (.bool (ja l x))/\w'=W:=by
 have b:=G7 (x:=x) h;have a:=G3 l x;obtain⟨p,cap,rfl,_,_⟩:=h.slice;generalize At l x=z at b a;clear h;have c:=aa a;clear a;go_enter func179,ntmps179;go_wp2_with (go_at_call 201;refine b.mono ?_;rintro e d⟨rfl,rfl⟩);go_ret;exact⟨aH c.out,rfl⟩
def BS(l:List C):Prop:=∀c∈l,c.nm.size<=maxLen
def t6(t:T):Prop:=t.nm.size<=maxLen/\BS t.cols
theorem dH{x:ByteArray}{b:Bool}(h:named x=b)(w:World)(hs:x.size<=maxLen):Calls prog 176 #[.string x] w fun e w'=>e=.returned (.bool b)/\w=w':=h▸ES x w hs
theorem jN{l:List C}{v:Value}{x:ByteArray}{W:World}{b:Bool}(h:fj W v l)(hb:cp l x=b):Calls prog 177 #[v,.string x] W fun e w'=>e=.returned (.bool b)/\Below W.heap.size W w':=hb▸yE h
theorem mU{l:List C}{j:Nat}(hj:j<l.length):js l j=(named l[j].nm&&!cp (l.take j) l[j].nm):=by
 unfold js;rw[z6 hj]
theorem nT{l:List C}{v:Value}{W:World}(h:fj W v l)(hs:BS l):Calls prog 146 #[v] W fun e w'=>e=.returned (.bool (jl l))/\Below W.heap.size W w':=by
 obtain⟨p,cap,rfl,O,P⟩:=h.slice;obtain⟨n,E⟩:=ae l.length;unfold maxLen at P;rw[E]at O ⊢;rw[E]at h;have f:=aa h;have G:=aa (ab E hs);clear h E hs;go_enter func146,ntmps146;go_wp2_with fail;go_loopg [3,7] (n+1) (fun Q _ R w=>∃(j:Nat),R=.int .i64 (j:Int)/\j<=n/\n+1<=j+Q/\(∀i,i<j->js l i=true)/\Below W.heap.size W w)
 case atStart=>exact⟨0,rfl,zj _,by omega,fun i N=>by omega,zg _ _⟩
 obtain⟨j,rfl,X,Y,z,x⟩:=hrel;have H:=aa (ab z x);clear z;by_cases I:j<n
 ·have o:j<l.length:=(by rw[G.1];exact I);obtain⟨b,d,rfl,m,c0,c1,c2,c3⟩:=fj.col (f.out.later x) o;obtain⟨c,q⟩:=ae (l[j]);rw[q]at c0 c1 c2 c3;have J:=mU o;rw[q]at J;have A:c.nm.size<=maxLen:=G.2 c (by rw[<-q];exact z8 _);have y:=aa (ab J A);have F:=aa (me.new (c:=c) (f.out.later x) x x.size);clear q x J A;have U:(j:Int)<=(cap:Int):=(by omega);have V:cap≠j:=(by omega);go_upto_region 4 with fail;obtain⟨S,L⟩:=ae wr.heap.size;obtain⟨M,u⟩:=ae (wr.alloc (.cells #[.string c.nm,.int .i64 c.kd,.bool c.mu,.string c.tgt] 107));rw[u,L]at F;rw[u,L];clear u L;have B:∀w,fj w (.slice (some ⟨b,d,none⟩) n cap) l->fj w (.slice (some ⟨b,d,none⟩) j cap) (l.take j):=(fun w h=>fj.take (n:=n) h (by omega));cases g:named c.nm
  ·refine Par.ag 12 [.pointer (some ⟨S,0,none⟩),.string (c.nm),.bool false,.bool true,.bool true,undef,undef,undef,undef,undef,undef,.bool true] (me W.heap.size W S c (.slice (some ⟨b,d,none⟩) n cap) l) ?A1 ?hm1 ?hB1 ?hA1 (F.out.on (aF M 1)) ?hop1 ?hT1
   case hm1=>kernel_rfl
   case hB1=>kernel_rfl
   case hA1 =>
    simp only[Par.am,Par.ai,Act.put,eh,ez,dz,eo,ew,ey,ed,ic,gy];rfl
   case hop1 =>
    simp only[en,zh,Par.ah,yo];and_intros<;>intro w' a<;>have f:=aa a
    rotate_left;have k:=a.cell.2.1;rotate_left
    ·clear a;simp only[Par.Gives];go_simp;exact(dH g w' y.2).mono (fun e r⟨s,m⟩=>⟨s,m▸f.out⟩)
    rotate_left 9
    all_goals(clear a;simp only[Par.Gives];go_simp;all_goals exact f.out)
   intro w' a;simp only[ex,ym];go_wp2_with fail;go_ret;exact⟨aH (bC j o (by rw[y.1,g];rfl)).symm,a.2.2.1⟩
  cases t:cp (l.take j) c.nm
  ·refine Par.ag 12 [.pointer (some ⟨S,0,none⟩),.string (c.nm),.bool true,.bool false,.bool false,.slice (some ⟨b,d,none⟩) n cap, .int .i64 (j:Int),.slice (some ⟨b,d,none⟩) j cap,.pointer (some ⟨S,0,none⟩),.string (c.nm),.bool false,.bool false] (me W.heap.size W S c (.slice (some ⟨b,d,none⟩) n cap) l) ?A2 ?hm2 ?hB2 ?hA2 (F.out.on (aF M 1)) ?hop2 ?hT2
   case hm2=>kernel_rfl
   case hB2=>kernel_rfl
   case hA2 =>
    simp only[Par.am,Par.ai,Act.put,eh,ez,dz,eo,ew,ey,ed,ic,gy];rfl
   case hop2 =>
    simp only[en,zh,Par.ah,yo];and_intros<;>intro w' a<;>have f:=aa a
    rotate_left;have k:=a.cell.2.1;rotate_left
    ·clear a;simp only[Par.Gives];go_simp;exact(dH g w' y.2).mono (fun e r⟨s,m⟩=>⟨s,m▸f.out⟩)
    rotate_left 6;have k:=a.cell.2.1;rotate_left
    ·clear a;simp only[Par.Gives];go_simp;exact(jN (B _ f.2.1) t).mono (fun e r⟨s,m⟩=>⟨s,f.out.on m⟩)
    rotate_left
    all_goals(clear a;simp only[Par.Gives];go_simp;all_goals exact f.out)
   intro w' a;simp only[ex,ym];go_wp2_with fail;go_roundg (n-j)
   case measure=>omega
   exact⟨j+1,by go_num,by omega,by omega,fun i N=>by rcases(by omega:i<j∨i=j)with h|rfl;exact H.1 i h;rw[y.1,g,t];rfl,a.2.2.1⟩
  refine Par.ag 12 [.pointer (some ⟨S,0,none⟩),.string (c.nm),.bool true,.bool false,.bool false,.slice (some ⟨b,d,none⟩) n cap, .int .i64 (j:Int),.slice (some ⟨b,d,none⟩) j cap,.pointer (some ⟨S,0,none⟩),.string (c.nm),.bool true,.bool true] (me W.heap.size W S c (.slice (some ⟨b,d,none⟩) n cap) l) ?A3 ?hm3 ?hB3 ?hA3 (F.out.on (aF M 1)) ?hop3 ?hT3
  case hm3=>kernel_rfl
  case hB3=>kernel_rfl
  case hA3 =>
   simp only[Par.am,Par.ai,Act.put,eh,ez,dz,eo,ew,ey,ed,ic,gy];rfl
  case hop3 =>
   simp only[en,zh,Par.ah,yo];and_intros<;>intro w' a<;>have f:=aa a
   rotate_left;have k:=a.cell.2.1;rotate_left
   ·clear a;simp only[Par.Gives];go_simp;exact(dH g w' y.2).mono (fun e r⟨s,m⟩=>⟨s,m▸f.out⟩)
   rotate_left 6;have k:=a.cell.2.1;rotate_left
   ·clear a;simp only[Par.Gives];go_simp;exact(jN (B _ f.2.1) t).mono (fun e r⟨s,m⟩=>⟨s,f.out.on m⟩)
   rotate_left
   all_goals(clear a;simp only[Par.Gives];go_simp;all_goals exact f.out)
  intro w' a;simp only[ex,ym];go_wp2_with fail;go_ret;exact⟨aH (bC j o (by rw[y.1,g,t];rfl)).symm,a.2.2.1⟩
 go_wp2_with fail;go_ret;exact⟨aH (bQ (fun i N=>H.1 i (by have:=G.1;omega))).symm,H.2⟩
theorem cK(x:ByteArray):x.toList.isEmpty=ip x e0:=by
 rw[wj];unfold ip;cases x.data.toList <;> rfl
theorem qI{t:T}{cv dv:Value}{W:World}(h:dw W cv dv t):Calls prog 147 #[.agg #[.string t.nm,cv,.string t.key,dv]] W fun e w'=>e=.returned (.bool (bm t))/\Below W.heap.size W w':=by
 have i:=aD W (ar t.nm cv t.key dv);have c:=(fun(b:Bool) (f:cp t.cols t.key=b)=>jN (h.1.later i) f);obtain⟨p,cap,rfl,_,_⟩:=h.1.slice;generalize t.cols.length=n at *;cases a:ip t.key e0
 ·have j:t.key.toList.isEmpty=false:=(by rw[cK];exact a);cases d:cp t.cols t.key
  ·have g:Hid (bm t=false):=aa (by unfold bm;rw[a,d];rfl);have c:=c _ d;clear h a d;go_enter func147,ntmps147;go_wp2_with (go_at_call 177;refine c.mono ?_;rintro e k⟨rfl,f⟩);go_ret;exact⟨aH g.out.symm,aC i f⟩
  have g:Hid (bm t=true):=aa (by unfold bm;rw[a,d];rfl);have c:=c _ d;clear h a d;go_enter func147,ntmps147;go_wp2_with (go_at_call 177;refine c.mono ?_;rintro e k⟨rfl,f⟩);go_ret;exact⟨aH g.out.symm,aC i f⟩
 have j:t.key.toList.isEmpty=true:=(by rw[cK];exact a);have g:Hid (bm t=true):=aa (by unfold bm;rw[a];rfl);clear h a;go_enter func147,ntmps147;go_wp2_with fail;go_ret;exact⟨aH g.out.symm,i⟩
theorem jO{l:List C}{left:List ByteArray}{j:Nat}(hj:j<left.length):mc l left j=(cp l left[j]&&!ja (left.take j) left[j]):=by
 unfold mc;rw[z6 hj]
theorem kE{l:List ByteArray}{v:Value}{x:ByteArray}{W:World}{b:Bool}(h:kh W v l)(hb:ja l x=b):Calls prog 179 #[v,.string x] W fun e w'=>e=.returned (.bool b)/\w'=W:=hb▸iQ h
theorem nU{l:List C}{left:List ByteArray}{cv lv:Value}{W:World}(h:fj W cv l)(hs:kh W lv left):Calls prog 178 #[cv,lv] W fun e w'=>e=.returned (.bool (fm l left))/\Below W.heap.size W w':=by
 obtain⟨pc,Y,rfl,P,Q⟩:=h.slice;obtain⟨p,cap,rfl,G,H⟩:=hs.slice;obtain⟨n,I⟩:=ae left.length;obtain⟨nc,u⟩:=ae l.length;unfold maxLen at H;rw[I]at G hs ⊢;rw[u]at h ⊢;have M:=aa (ab h hs);have A:=aa I;clear h hs I u P Q;by_cases R:n=0
 ·subst R;go_enter func178,ntmps178;go_wp2_with fail;go_ret;exact⟨aH (by unfold fm;rw[A.out];rfl),zg _ _⟩
 by_cases Z:3<n
 ·have N:((n:Int)==0)=false:=beq_eq_false_iff_ne.2 (by omega);go_enter func178,ntmps178;go_wp2_with fail;go_ret;exact⟨aH (by unfold fm;rw[A.out,yp (show ¬ n<=3 by omega)];simp),zg _ _⟩
 have N:((n:Int)==0)=false:=beq_eq_false_iff_ne.2 (by omega);have J:Hid (fm l left=(List.range n).all (mc l left)):=aa (by unfold fm;rw[A.out,yy (show n<=3 by omega),yy (show 1<=n by omega)];rfl);go_enter func178,ntmps178;go_wp2_with fail;clear N;go_loopg [5,6,17] (n+1) (fun S _ _ U w=>∃(j:Nat),U=.int .i64 (j:Int)/\j<=n/\n+1<=j+S/\(∀i,i<j->mc l left i=true)/\Below W.heap.size W w)
 case atStart=>exact⟨0,rfl,zj _,by omega,fun i O=>by omega,zg _ _⟩
 obtain⟨j,rfl,hj,hg,v,B⟩:=hrel;have t:=aa (ab v B);clear v;by_cases q:j<n
 ·have x:j<left.length:=(by rw[A.out];exact q);have g:=M.2.later B;obtain⟨b,L,rfl,E,c0⟩:=kh.word g x;have k:kh wr (.slice (some ⟨b,L,none⟩) j cap) (left.take j):=kh.take g (by omega);have d:=M.1.later B;obtain⟨c,y⟩:=ae (left[j]);have r:=jO (l:=l) x;rw[y]at c0 r;have V:(j:Int)<=(cap:Int):=(by omega);have X:cap≠j:=(by omega);clear y B;cases o:cp l c
  ·have z:Hid (mc l left j=false):=aa (by rw[r,o];rfl);have m:=jN d o;clear r o d g k;go_wp2_with (go_at_call 177;refine m.mono ?_;rintro e F⟨rfl,a⟩);go_ret;exact⟨aH (by rw[J.out];exact(bC j q z.out).symm),aC t.2 a⟩
  cases f:ja (left.take j) c
  ·have z:Hid (mc l left j=true):=aa (by rw[r,o,f];rfl);have m:=jN d o;have s:∀{w:World},Below wr.heap.size wr w->_:=(fun{w} E=>kE (W:=w) (k.later E) f);clear r o d g k f
   go_wp2_with (first|(go_at_call 177;refine m.mono ?_;rintro e F⟨rfl,a⟩)|(go_at_call 179;refine(s a).mono ?_;rintro e F⟨rfl,rfl⟩))
   go_roundg (n-j)
   case measure=>omega
   exact⟨j+1,by go_num,by omega,by omega,fun i O=>by rcases(by omega:i<j∨i=j)with h|rfl;exact t.1 i h;exact z.out,aC t.2 a⟩
  have z:Hid (mc l left j=false):=aa (by rw[r,o,f];rfl);have m:=jN d o;have s:∀{w:World},Below wr.heap.size wr w->_:=(fun{w} E=>kE (W:=w) (k.later E) f);clear r o d g k f
  go_wp2_with (first|(go_at_call 177;refine m.mono ?_;rintro e F⟨rfl,a⟩)|(go_at_call 179;refine(s a).mono ?_;rintro e F⟨rfl,rfl⟩))
  go_ret;exact⟨aH (by rw[J.out];exact(bC j q z.out).symm),aC t.2 a⟩
 go_wp2_with fail;go_ret;exact⟨aH (by rw[J.out];exact(bQ (fun i O=>t.1 i (by omega))).symm),t.2⟩
theorem oQ{l:List C}{j:Nat}(hj:j<l.length):oo l j=decide (l[j].kd=1∨l[j].kd=2):=by
 unfold oo;rw[z6 hj]
theorem vS{l:List C}{v:Value}{W:World}(h:fj W v l):Calls prog 149 #[v] W fun e w'=>e=.returned (.bool (db l))/\Below W.heap.size W w':=by
 obtain⟨p,cap,rfl,z,A⟩:=h.slice;obtain⟨n,o⟩:=ae l.length;unfold maxLen at A;rw[o]at z ⊢;rw[o]at h;have B:=aa h;have y:=aa o;clear h o;go_enter func149,ntmps149;go_wp2_with fail;go_loopg [7] (n+1) (fun E F w=>∃(j:Nat),F=.int .i64 (j:Int)/\j<=n/\n+1<=j+E/\(∀i,i<j->oo l i=true)/\Below W.heap.size W w)
 case atStart=>exact⟨0,rfl,zj _,by omega,fun i q=>by omega,zg _ _⟩
 obtain⟨j,rfl,L,M,m,r⟩:=hrel;have a:=aa (ab m r);clear m;by_cases s:j<n
 ·have d:j<l.length:=(by rw[y.out];exact s);obtain⟨b,G,rfl,N,c0,c1,c2,c3⟩:=fj.col (B.out.later r) d;obtain⟨c,f⟩:=ae (l[j]);rw[f]at c0 c1 c2 c3;have t:=oQ d;rw[f]at t;have u:=aa t;clear f r t;by_cases g:c.kd=1
  ·have H:(c.kd != 1)=false:=(by simp[g]);have I:=aa g;clear g;go_wp2_with fail;go_roundg (n-j)
   case measure=>omega
   exact⟨j+1,by go_num,by omega,by omega,fun i q=>by rcases(by omega:i<j∨i=j)with h|rfl;exact a.1 i h;rw[u.out,yy (.inl I.out)],a.2.alloc a.2.size _⟩
  have H:(c.kd != 1)=true:=(by simp[g]);by_cases k:c.kd=2
  ·have J:(c.kd != 2)=false:=(by simp[k]);have x:=aa k;clear g k;go_wp2_with fail;go_roundg (n-j)
   case measure=>omega
   exact⟨j+1,by go_num,by omega,by omega,fun i q=>by rcases(by omega:i<j∨i=j)with h|rfl;exact a.1 i h;rw[u.out,yy (.inr x.out)],a.2.alloc a.2.size _⟩
  have J:(c.kd != 2)=true:=(by simp[k]);have x:Hid (¬ (c.kd=1∨c.kd=2)):=aa (fun h=>h.elim g k);clear g k;go_wp2_with fail;go_ret;exact⟨aH (bC j d (by rw[u.out,yp x.out])).symm,a.2.alloc a.2.size _⟩
 go_wp2_with fail;go_ret;exact⟨aH (bQ (fun i q=>a.1 i (by have:=y.out;omega))).symm,a.2⟩
section
variable{B:Nat}{W0:World}{S0:Nat}{t:T}{cv dv:Value}{w w':World}
end
section
variable{B:Nat}{W0:World}{S0 S:Nat}{t:T}{cv dv:Value}{d:D}{lv:Value}{w w':World}
end
theorem iU{l:List C}{left:List ByteArray}{cv lv:Value}{W:World}{b:Bool}(h:fj W cv l)(hs:kh W lv left)(hb:fm l left=b):Calls prog 178 #[cv,lv] W fun e w'=>e=.returned (.bool b)/\Below W.heap.size W w':=hb▸nU h hs
theorem CV{l:List C}{ds:List D}{j:Nat}(hj:j<ds.length):jo l ds j=(fm l ds[j].left&&(cp l ds[j].right&&!ja ds[j].left ds[j].right)):=by
 unfold jo;rw[z6 hj];rfl
theorem nV{t:T}{cv dv:Value}{W:World}(h:dw W cv dv t):Calls prog 148 #[.agg #[.string t.nm,cv,.string t.key,dv]] W fun e w'=>e=.returned (.bool (jd t.cols t.deps))/\Below W.heap.size W w':=by
 have R:=aa (ep.new h);obtain⟨pc,U,H,_,_⟩:=h.1.slice;obtain⟨p,cap,I,hc,hm⟩:=h.2.slice;obtain⟨nc,J⟩:=ae t.cols.length;obtain⟨n,V⟩:=ae t.deps.length;obtain⟨B,hB⟩:=ae W.heap.size;unfold maxLen at hm;rw[V]at hc I;rw[J]at H;subst H I;have HN:=aa V;rw[hB]at R;have v:=aa hB;clear h V J;go_enter func148,ntmps148;go_upto_region 1 with fail;obtain⟨w0,L⟩:=ae (W.alloc (ar t.nm (.slice pc nc U) t.key (.slice p n cap)));rw[L]at R ⊢;clear L;obtain⟨A,_,z1,_,z3⟩:=R.out.cells;go_wp2_with fail;clear z1 z3 A;go_loopg [8] (n+1) (fun gh jv w=>∃(j:Nat),jv=.int .i64 (j:Int)/\j<=n/\n+1<=j+gh/\(∀i,i<j->jo t.cols t.deps i=true)/\ep B W B t (.slice pc nc U) (.slice p n cap) w)
 case atStart=>exact⟨0,rfl,zj _,by omega,fun i hi=>by omega,R.out⟩
 obtain⟨j,rfl,hj,hg,M,E⟩:=hrel;have X:=aa (ab M E);clear M;by_cases Y:j<n
 ·have o:j<t.deps.length:=(by rw[HN.out];exact Y);obtain⟨b,N,lv,rfl,hb,c0,c1,q⟩:=px.dep E.tab.2 o;obtain⟨d,O⟩:=ae (t.deps[j]);have y:=CV (l:=t.cols) o;rw[O]at c1 q y;obtain⟨pl,cl,rfl,_,_⟩:=q.slice;obtain⟨nl,P⟩:=ae d.left.length;rw[P]at q c0;have r:=aa (it.new E q);clear O E q P;go_upto_region 4 with fail;obtain⟨S,hS⟩:=ae wr.heap.size;obtain⟨w1,Q⟩:=ae (wr.alloc (.cells #[.slice pl nl cl,.string d.right] 155));rw[Q,hS]at r ⊢;clear Q hS c0 c1 hb;obtain⟨y0,y1,y2⟩:=r.out.cells;obtain⟨A,_,z1,_,_⟩:=r.out.tb.cells;cases u:fm t.cols d.left
  ·have G:Hid (jo t.cols t.deps j=false):=aa (by rw[y,u];rfl);have c:=iU r.out.tb.tab.1 r.out.left u;clear y u;go_wp2_with (go_at_call 178;refine c.mono ?_;rintro e Z⟨rfl,a⟩);go_ret;exact⟨aH (bC j o G.out).symm,v.out▸(r.out.on a).tb.below⟩
  have c:=iU r.out.tb.tab.1 r.out.left u;have f:∀{w:World},it B W B S t (.slice pc nc U) (.slice (some ⟨b,N,none⟩) n cap) d (.slice pl nl cl) w->_:=(fun{w} E=>yE (x:=d.right) (W:=w) E.tb.tab.1);have s:∀{w:World},it B W B S t (.slice pc nc U) (.slice (some ⟨b,N,none⟩) n cap) d (.slice pl nl cl) w->_:=(fun{w} E=>iQ (x:=d.right) (W:=w) E.left);cases F:cp t.cols d.right
  ·have G:Hid (jo t.cols t.deps j=false):=aa (by rw[y,u,F];rfl);rw[F]at f;clear y u F s
   go_wp2_with (first|(go_at_call 178;refine c.mono ?_;rintro e Z⟨rfl,a⟩;have k:=aa (r.out.on a);obtain⟨x0,x1,x2⟩:=k.out.cells;obtain⟨x3,_,x4,_,_⟩:=k.out.tb.cells;clear a c)|(go_at_call 177;refine(f k.out).mono ?_;rintro e w3⟨rfl,g⟩))
   go_ret;exact⟨aH (bC j o G.out).symm,v.out▸(k.out.on g).tb.below⟩
  rw[F]at f;cases m:ja d.left d.right
  ·have G:Hid (jo t.cols t.deps j=true):=aa (by rw[y,u,F,m];rfl);rw[m]at s;clear y u F m
   go_wp2_with (first|(go_at_call 178;refine c.mono ?_;rintro e Z⟨rfl,a⟩;have k:=aa (r.out.on a);obtain⟨x0,x1,x2⟩:=k.out.cells;obtain⟨x3,_,x4,_,_⟩:=k.out.tb.cells;clear a c)|(go_at_call 177;refine(f k.out).mono ?_;rintro e w3⟨rfl,g⟩;have z:=aa (k.out.on g);obtain⟨q0,q1,q2⟩:=z.out.cells;obtain⟨q3,_,q4,_,_⟩:=z.out.tb.cells;clear g f)|(go_at_call 179;refine(s z.out).mono ?_;rintro e w4⟨rfl,rfl⟩))
   go_roundg (n-j)
   case measure=>omega
   exact⟨j+1,by go_num,by omega,by omega,fun i hi=>by rcases(by omega:i<j∨i=j)with h|rfl;exact X.1 i h;exact G.out,z.out.tb⟩
  have G:Hid (jo t.cols t.deps j=false):=aa (by rw[y,u,F,m];rfl);rw[m]at s;clear y u F m
  go_wp2_with (first|(go_at_call 178;refine c.mono ?_;rintro e Z⟨rfl,a⟩;have k:=aa (r.out.on a);obtain⟨x0,x1,x2⟩:=k.out.cells;obtain⟨x3,_,x4,_,_⟩:=k.out.tb.cells;clear a c)|(go_at_call 177;refine(f k.out).mono ?_;rintro e w3⟨rfl,g⟩;have z:=aa (k.out.on g);obtain⟨q0,q1,q2⟩:=z.out.cells;obtain⟨q3,_,q4,_,_⟩:=z.out.tb.cells;clear g f)|(go_at_call 179;refine(s z.out).mono ?_;rintro e w4⟨rfl,rfl⟩))
  go_ret;exact⟨aH (bC j o G.out).symm,v.out▸z.out.tb.below⟩
 go_wp2_with fail;go_ret;exact⟨aH (bQ (fun i hi=>X.1 i (by have:=HN.out;omega))).symm,v.out▸X.2.below⟩
def qe(t:T):Bool:=decide (0<t.cols.length)&&(decide (t.cols.length<=6)&&decide (t.deps.length<=3))
theorem F0{t:T}{cv dv:Value}{W:World}(h:dw W cv dv t):Calls prog 144 #[.agg #[.string t.nm,cv,.string t.key,dv]] W fun e w'=>e=.returned (.bool (qe t))/\Below W.heap.size W w':=by
 obtain⟨pc,j,rfl,_,_⟩:=h.1.slice;obtain⟨p,cap,rfl,g,i⟩:=h.2.slice;clear h g i;obtain⟨r,a⟩:=ae (qe t);rw[a];unfold qe at a;generalize t.cols.length=m at *;generalize t.deps.length=n at *;have b:=aa a;clear a;by_cases c:0<m
 ·by_cases d:m<=6
  ·by_cases f:n<=3
   ·go_enter func144,ntmps144;go_wp2_with fail;go_ret;exact⟨aH (by rw[<-b.out];simp[c,d,f];omega),aD W _⟩
   go_enter func144,ntmps144;go_wp2_with fail;go_ret;exact⟨aH (by rw[<-b.out];simp[c,d,f];omega),aD W _⟩
  go_enter func144,ntmps144;go_wp2_with fail;go_ret;exact⟨aH (by rw[<-b.out];simp[c,d]),aD W _⟩
 go_enter func144,ntmps144;go_wp2_with fail;go_ret;exact⟨aH (by rw[<-b.out];simp[c]),aD W _⟩
