import Derived.Test.YthlccadnojnkaaaGreatZk17
set_option maxHeartbeats 2000000
set_option maxRecDepth 100000
namespace Go.Proofs.YthlccadnojnkaaaGreat
open Go Go.RowKit Go.Proofs
variable {mv:Value}
section
variable {w:World} {base:Nat} {e:TypeId} {size:Nat} {v:Value} {n:Nat} {xs:List Value}
variable {g cap:Nat}
end
section
variable {P:Program} (w:World)
end
section
variable {P:Program}
end
theorem nD (s:ByteArray) (k:Nat) (h:k<s.size):s.data.toList.take (k+1)=s.data.toList.take k++[s[k]]:=by
 rw[List.take_succ_eq_append_getElem (by simpa using h)];rfl
def kws:List (List UInt8):=[
 [116,97,98,108,101],
 [107,101,121],
 [102,100],
 [105,110,116],
 [116,101,120,116],
 [109,117,115,116],
 [116,111],
 [108,111,97,100],
 [105,110,115,101,114,116],
 [100,101,108,101,116,101],
 [117,112,100,97,116,101],
 [115,117,109,109,97,114,121],
 [111,110],
 [98,121],
 [107,101,101,112],
 [100,114,111,112],
 [102,114,111,109],
 [119,104,101,114,101],
 [97,110,100],
 [105,115],
 [110,111,116],
 [110,117,108,108],
 [114,111,108,108,117,112],
 [99,117,98,101],
 [115,104,111,119],
 [104,97,118,105,110,103],
 [111,114,100,101,114],
 [100,101,115,99],
 [108,105,109,105,116],
 [117,115,105,110,103],
 [98,97,115,101],
 [99,111,117,110,116],
 [115,117,109],
 [109,105,110],
 [109,97,120],
 [97,118,103],
 [100,105,115,116,105,110,99,116],
 [114,111,119,115]]
def kwB (l:List UInt8):Bool:=kws.any (fun x=>l==x)
def ltr (c:UInt8):Bool:=c.toNat==95 || (decide (97<=c.toNat)&&decide (c.toNat<=122))
def dgt (c:UInt8):Bool:=decide (48<=c.toNat)&&decide (c.toNat<=57)
def speltB:List UInt8->Bool
 | []=>false
 | c::r=>ltr c&&r.all fun c=>ltr c || dgt c
def nameB (l:List UInt8):Bool:=decide (l.length<=12)&&speltB l&&!kwB l
theorem aCY (c:UInt8) (h:dgt c=true):ltr c=false:=by
 unfold dgt at h;unfold ltr
 simp at h
 simp
 omega
theorem tI (l:List UInt8) (c:UInt8) (h:speltB l=true):speltB (l++[c])=(ltr c || dgt c):=by
 cases l with
 | nil=>simp[speltB] at h
 | cons x r =>
  simp only[speltB,Bool.and_eq_true] at h;simp[speltB,h.1,List.all_append,h.2]
theorem fF (l:List UInt8) (k:Nat) (c:UInt8) (hc:l[k]?=some c) (hb:ltr c=false) (hd:dgt c=false∨k=0):speltB l=false:=by
 cases l with
 | nil=>simp at hc
 | cons x r =>
  simp only[speltB,Bool.and_eq_false_iff];cases k with
  | zero =>
   simp at hc;subst hc;exact .inl hb
  | succ k =>
   right
   rw[List.all_eq_false];rcases hd with hd|hd
   ·have:r[k]?=some c:=(by simpa using hc);exact⟨c,List.mem_of_getElem? this,by simp[hb,hd]⟩
   ·omega
theorem aBv (l:List UInt8) (h1:¬ l.length<1) (h2:¬ 12<l.length) (c:UInt8) (hc:l[0]?=some c) (h3:dgt c=false) (h4:kwB l=false) (h5:l.all (fun c=>ltr c || dgt c)=true):nameB l=true:=by
 cases l with
 | nil=>simp at h1
 | cons x r =>
  simp at hc;subst hc;simp only[List.all_cons,Bool.and_eq_true,Bool.or_eq_true,h3,Bool.false_eq_true,or_false] at h5;simp only[nameB,speltB,h4,h5.1,h5.2];simp at h2 ⊢;omega
theorem nE (l:List UInt8) (h:l.length<1∨12<l.length∨kwB l=true):nameB l=false:=by
 unfold nameB;rcases h with h|h|h
 ·have:l=[]:=List.eq_nil_of_length_eq_zero (by omega);subst this;simp[speltB]
 ·have:¬ l.length<=12:=(by omega);simp[this]
 simp[h]
theorem tJ (l:List UInt8) (c:UInt8) (hc:l[0]?=some c) (h:dgt c=true):nameB l=false:=by
 unfold nameB;rw[fF l 0 c hc (aCY c h) (.inr rfl)];simp
theorem aBw (l:List UInt8) (k:Nat) (c:UInt8) (hc:l[k]?=some c) (h1:ltr c=false) (h2:dgt c=false):nameB l=false:=by
 unfold nameB;rw[fF l k c hc h1 (.inl h2)];simp
theorem aHk {l x:List UInt8} (h:(l==x)=true) (hx:x∈kws):true=kwB l:=by
 unfold kwB;rw[eq_comm,List.any_eq_true];exact⟨x,hx,h⟩
theorem lE (s:ByteArray) (w:World) :
  Calls Tryz.prog 182 #[.string s] w fun e w'=>e=.returned (.bool (kwB s.data.toList))/\w=w':=by
 rw[<- ByteArray.toList_eq];go_enter Tryz.func182,Tryz.ntmps182
 go_wp2
 all_goals go_ret
 all_goals refine⟨aH ?_,rfl⟩
 all_goals first
  | exact aHk (by assumption) (by decide)
  | (exact absurd (Eq.trans (Eq.symm (by assumption:(_==_)=true)) (by assumption)) (by decide))
  | (rw[eq_comm];unfold kwB kws;simp only[List.any_cons,List.any_nil,Bool.or_false,Bool.or_eq_false_iff];(repeat' apply qBq) <;> assumption)
theorem lT {c:UInt8} (h:c.toNat=95∨(97<=c.toNat/\c.toNat<=122)):ltr c=true:=by
 unfold ltr;rcases h with h|h <;> simp <;> omega
theorem iE {c:UInt8} (h:c.toNat≠95) (h2:c.toNat<97∨122<c.toNat):ltr c=false:=by
 unfold ltr;simp;omega
theorem aFi {c:UInt8} (h:48<=c.toNat) (h2:c.toNat<=57):dgt c=true:=by
 unfold dgt;simp;omega
theorem nF {c:UInt8} (h:c.toNat<48∨57<c.toNat):dgt c=false:=by
 unfold dgt;simp;omega
theorem aFj {c:UInt8} (h:¬ c.toNat<48):decide ((c.toNat:Int)<=57)=dgt c:=by
 unfold dgt;rw[Bool.eq_iff_iff];simp;omega
theorem aHl (s:ByteArray) (k:Nat) (h:k<s.size):s.data.toList[k]?=some s[k]:=by
 have h':k<s.data.size:=h;rw[Array.getElem?_toList,Array.getElem?_eq_getElem h'];rfl
theorem iF (s:ByteArray) (k:Nat) (h:k<s.size) (hr:k=0∨speltB (s.data.toList.take k)=true) (hc:ltr s[k]=true∨(dgt s[k]=true/\k≠0)):k+1=0∨speltB (s.data.toList.take (k+1))=true:=by
 right
 rw[nD s k h];rcases hr with hr|hr
 ·subst hr;rcases hc with hc|hc
  ·simp[speltB,hc]
  exact absurd rfl hc.2
 rw[tI _ _ hr];rcases hc with hc|hc
 ·simp[hc]
 simp[hc.1]
theorem aBx (s:ByteArray) (hr:s.size=0∨speltB (s.data.toList.take s.size)=true):(!s.toList.isEmpty)=speltB s.data.toList:=by
 rw[ByteArray.toList_eq];rw[List.take_of_length_le (by simp)] at hr;rcases hr with hr|hr
 ·have:s.data.toList=[]:=List.eq_nil_of_length_eq_zero (by simpa using hr);rw[this];rfl
 cases h:s.data.toList with
 | nil=>rw[h] at hr;simp[speltB] at hr
 | cons a b=>rw[h] at hr;rw[hr];rfl
theorem lF (s:ByteArray) (w:World) (hs:s.size<=maxLen) :
  Calls Tryz.prog 181 #[.string s] w fun e w'=>e=.returned (.bool (speltB s.data.toList))/\w=w':=by
 unfold maxLen at hs;go_enter Tryz.func181,Tryz.ntmps181
 go_wp2
 go_loop [3] (fun i=>∃ k:Nat,k<=s.size/\i=.int .i64 k/\(k=0∨speltB (s.data.toList.take k)=true)) (fun i=>s.size-(intOf i).toNat)
 case atStart=>exact⟨0,Nat.zero_le _,rfl,.inl rfl⟩
 obtain⟨k,hk,rfl,hall⟩:=hrel;have H:=qAq hall;clear hall;by_cases hlt:k<s.size
 ·have bad:ltr s[k]=false->(dgt s[k]=false∨k=0)->false=speltB s.data.toList:=(fun h1 h2=>(fF _ k _ (aHl s k hlt) h1 h2).symm);have BAD:=qAq bad;clear bad;by_cases c1:s[k].toNat<48
  ·have e1:((s[k].toNat:Int)==95)=false:=beq_eq_false_iff_ne.2 (by omega)
   go_wp2
   go_ret;exact⟨aH (BAD.out (iE (by omega) (by omega)) (.inl (nF (by omega)))),rfl⟩
  by_cases c2:s[k].toNat<=57
  ·have e1:((s[k].toNat:Int)==95)=false:=beq_eq_false_iff_ne.2 (by omega);by_cases k0:k=0
   ·subst k0
    go_wp2
    go_ret;exact⟨aH (BAD.out (iE (by omega) (by omega)) (.inr (by trivial))),rfl⟩
   have e2:((k:Int)==0)=false:=beq_eq_false_iff_ne.2 (by omega)
   go_wp2
   exact⟨⟨k+1,by omega,by go_num,iF s k hlt H.out (.inr ⟨aFi (by omega) (by omega),k0⟩)⟩,by simp[intOf];omega⟩
  by_cases c3:s[k].toNat<95
  ·have e1:((s[k].toNat:Int)==95)=false:=beq_eq_false_iff_ne.2 (by omega)
   go_wp2
   go_ret;exact⟨aH (BAD.out (iE (by omega) (by omega)) (.inl (nF (by omega)))),rfl⟩
  by_cases c4:s[k].toNat=95
  ·have e1:((s[k].toNat:Int)==95)=true:=beq_iff_eq.2 (by omega);have C4:=qAq c4;have c5:s[k].toNat<97:=(by omega);clear c4
   go_wp2
   exact⟨⟨k+1,by omega,by go_num,iF s k hlt H.out (.inl (lT (.inl C4.out)))⟩,by simp[intOf];omega⟩
  have e1:((s[k].toNat:Int)==95)=false:=beq_eq_false_iff_ne.2 (by omega);by_cases c5:s[k].toNat<97
  ·go_wp2
   go_ret;exact⟨aH (BAD.out (iE (by omega) (by omega)) (.inl (nF (by omega)))),rfl⟩
  by_cases c6:s[k].toNat<=122
  ·go_wp2
   exact⟨⟨k+1,by omega,by go_num,iF s k hlt H.out (.inl (lT (.inr ⟨by omega,by omega⟩)))⟩,by simp[intOf];omega⟩
  have d6:decide ((s[k].toNat:Int)<=122)=false:=decide_eq_false (by omega)
  go_wp2
  go_ret;exact⟨aH (BAD.out (iE (by omega) (by omega)) (.inl (nF (by omega)))),rfl⟩
 obtain rfl:k=s.size:=by omega
 go_wp2
 go_ret;exact⟨aH (aBx s H.out),rfl⟩
theorem aCZ (s:ByteArray) (w:World) (hs:s.size<=maxLen) :
  Calls Tryz.prog 160 #[.string s] w fun e w'=>e=.returned (.bool (nameB s.data.toList))/\w=w':=by
 have hl:s.data.toList.length=s.size:=(by simp);have HL:=qAq hl;clear hl;by_cases h12:s.size<=12
 ·by_cases hsp:speltB s.data.toList=true
  ·go_enter Tryz.func160,Tryz.ntmps160
   go_wp2_with (first
    | (go_at_call 181;refine (lF _ _ hs).mono ?_;rintro e w' ⟨rfl,rfl⟩)
    | (go_at_call 182;refine (lE _ _).mono ?_;rintro e w' ⟨rfl,rfl⟩))
   go_ret;exact⟨aH (by unfold nameB;rw[hsp,HL.out];simp[h12]),rfl⟩
  have hsp':speltB s.data.toList=false:=(by simpa using hsp);go_enter Tryz.func160,Tryz.ntmps160
  go_wp2_with (first
   | (go_at_call 181;refine (lF _ _ hs).mono ?_;rintro e w' ⟨rfl,rfl⟩)
   | (go_at_call 182;refine (lE _ _).mono ?_;rintro e w' ⟨rfl,rfl⟩))
  go_ret;exact⟨aH (by unfold nameB;rw[hsp'];simp),rfl⟩
 go_enter Tryz.func160,Tryz.ntmps160
 go_wp2
 go_ret;exact⟨aH (by unfold nameB;rw[HL.out];simp[h12]),rfl⟩
theorem iG (c:UInt8) (w:World) :
  Calls Tryz.prog 166 #[.int .u8 (c.toNat:Int)] w fun e w'=>e=.returned (.bool (ltr c))/\w=w':=by
 by_cases h1:c.toNat=95
 ·have e1:((c.toNat:Int)==95)=true:=beq_iff_eq.2 (by omega);have H:=qAq h1;clear h1;go_enter Tryz.func166,Tryz.ntmps166
  go_wp2
  go_ret;exact⟨aH (lT (.inl H.out)).symm,rfl⟩
 have e1:((c.toNat:Int)==95)=false:=beq_eq_false_iff_ne.2 (by omega);by_cases h2:c.toNat<97
 ·go_enter Tryz.func166,Tryz.ntmps166
  go_wp2
  go_ret;exact⟨aH (iE h1 (.inl h2)).symm,rfl⟩
 by_cases h3:c.toNat<=122
 ·go_enter Tryz.func166,Tryz.ntmps166
  go_wp2
  go_ret;exact⟨aH (by rw[lT (.inr ⟨by omega,h3⟩)];simp;omega),rfl⟩
 go_enter Tryz.func166,Tryz.ntmps166
 go_wp2
 go_ret;exact⟨aH (by rw[iE h1 (.inr (by omega))];simp;omega),rfl⟩
theorem dJ (c:UInt8) (w:World) :
  Calls Tryz.prog 164 #[.int .u8 (c.toNat:Int)] w fun e w'=>e=.returned (.bool (dgt c))/\w=w':=by
 by_cases h2:c.toNat<48
 ·go_enter Tryz.func164,Tryz.ntmps164
  go_wp2
  go_ret;exact⟨aH (nF (.inl h2)).symm,rfl⟩
 go_enter Tryz.func164,Tryz.ntmps164
 go_wp2
 go_ret;exact⟨aH (aFj h2),rfl⟩
theorem aHY (k:Nat) (l:List UInt8) (hk:k<38) (h:(kws.getD k []==l)=true):true=kwB l:=by
 have hk':k<kws.length:=hk;have e:kws.getD k []=kws[k]:=(by rw[List.getD_eq_getElem?_getD,List.getElem?_eq_getElem hk'];rfl);rw[e] at h;have h':kws[k]=l:=(by simpa using h);unfold kwB;rw[eq_comm,List.any_eq_true];exact⟨kws[k],List.getElem_mem _,by simp[h']⟩
theorem aFk (l:List UInt8) (h:∀ j,j<38->(kws.getD j []==l)=false):false=kwB l:=by
 unfold kwB;rw[eq_comm,List.any_eq_false];intro x hx hne;obtain⟨j,hj,rfl⟩:=List.getElem_of_mem hx
 have:=h j hj
 rw[List.getD_eq_getElem?_getD,List.getElem?_eq_getElem hj] at this;have h2:l=kws[j]:=(by simpa using hne);simp[h2] at this
def kwCells:Array Value:=(kws.map fun l=>Value.string ⟨l.toArray⟩).toArray
theorem xI (k:Nat) (hk:k<38):kwCells[k]?=some (.string ⟨(kws.getD k []).toArray⟩):=by
 have hk':k<kws.length:=hk;unfold kwCells;rw[List.getElem?_toArray,List.getElem?_map,List.getD_eq_getElem?_getD,List.getElem?_eq_getElem hk'];rfl
theorem nG (s:ByteArray) (w:World) :
  Calls Tryz.prog 165 #[.string s] w fun e w'=>e=.returned (.bool (kwB s.data.toList))/\Below w.heap.size w w':=by
 rw[<- ByteArray.toList_eq];go_enter Tryz.func165,Tryz.ntmps165
 go_wp2
 generalize hW:w.alloc (Obj.cells #[Value.string { data:=#[116,97,98,108,101] },Value.string { data:=#[107,101,121] },Value.string { data:=#[102,100] },Value.string { data:=#[105,110,116] },Value.string { data:=#[116,101,120,116] },Value.string { data:=#[109,117,115,116] },Value.string { data:=#[116,111] },Value.string { data:=#[108,111,97,100] },Value.string { data:=#[105,110,115,101,114,116] },Value.string { data:=#[100,101,108,101,116,101] },Value.string { data:=#[117,112,100,97,116,101] },Value.string { data:=#[115,117,109,109,97,114,121] },Value.string { data:=#[111,110] },Value.string { data:=#[98,121] },Value.string { data:=#[107,101,101,112] },Value.string { data:=#[100,114,111,112] },Value.string { data:=#[102,114,111,109] },Value.string { data:=#[119,104,101,114,101] },Value.string { data:=#[97,110,100] },Value.string { data:=#[105,115] },Value.string { data:=#[110,111,116] },Value.string { data:=#[110,117,108,108] },Value.string { data:=#[114,111,108,108,117,112] },Value.string { data:=#[99,117,98,101] },Value.string { data:=#[115,104,111,119] },Value.string { data:=#[104,97,118,105,110,103] },Value.string { data:=#[111,114,100,101,114] },Value.string { data:=#[100,101,115,99] },Value.string { data:=#[108,105,109,105,116] },Value.string { data:=#[117,115,105,110,103] },Value.string { data:=#[98,97,115,101] },Value.string { data:=#[99,111,117,110,116] },Value.string { data:=#[115,117,109] },Value.string { data:=#[109,105,110] },Value.string { data:=#[109,97,120] },Value.string { data:=#[97,118,103] },Value.string { data:=#[100,105,115,116,105,110,99,116] },Value.string { data:=#[114,111,119,115] }] 9)=W;have hb:Below w.heap.size w W:=by rw[<- hW];exact aD _ _
 have hc:∀ k,k<38->W.cell? ⟨w.heap.size,k,none⟩=some (.string ⟨(kws.getD k []).toArray⟩):=by
  intro k hk;rw[<- hW];rw[show (Obj.cells #[Value.string { data:=#[116,97,98,108,101] },Value.string { data:=#[107,101,121] },Value.string { data:=#[102,100] },Value.string { data:=#[105,110,116] },Value.string { data:=#[116,101,120,116] },Value.string { data:=#[109,117,115,116] },Value.string { data:=#[116,111] },Value.string { data:=#[108,111,97,100] },Value.string { data:=#[105,110,115,101,114,116] },Value.string { data:=#[100,101,108,101,116,101] },Value.string { data:=#[117,112,100,97,116,101] },Value.string { data:=#[115,117,109,109,97,114,121] },Value.string { data:=#[111,110] },Value.string { data:=#[98,121] },Value.string { data:=#[107,101,101,112] },Value.string { data:=#[100,114,111,112] },Value.string { data:=#[102,114,111,109] },Value.string { data:=#[119,104,101,114,101] },Value.string { data:=#[97,110,100] },Value.string { data:=#[105,115] },Value.string { data:=#[110,111,116] },Value.string { data:=#[110,117,108,108] },Value.string { data:=#[114,111,108,108,117,112] },Value.string { data:=#[99,117,98,101] },Value.string { data:=#[115,104,111,119] },Value.string { data:=#[104,97,118,105,110,103] },Value.string { data:=#[111,114,100,101,114] },Value.string { data:=#[100,101,115,99] },Value.string { data:=#[108,105,109,105,116] },Value.string { data:=#[117,115,105,110,103] },Value.string { data:=#[98,97,115,101] },Value.string { data:=#[99,111,117,110,116] },Value.string { data:=#[115,117,109] },Value.string { data:=#[109,105,110] },Value.string { data:=#[109,97,120] },Value.string { data:=#[97,118,103] },Value.string { data:=#[100,105,115,116,105,110,99,116] },Value.string { data:=#[114,111,119,115] }] 9)=Obj.cells kwCells 9 from rfl,World.cell?_alloc_mark];exact xI k hk
 have HC:=qAq hc;clear hc hW
 go_loop [4] (fun i=>∃ k:Nat,k<=38/\i=.int .i64 k/\∀ j,j<k->(kws.getD j []==s.toList)=false) (fun i=>106-(intOf i).toNat)
 case atStart=>exact⟨0,Nat.zero_le _,rfl,fun j hj=>by omega⟩
 obtain⟨k,hk,rfl,hall⟩:=hrel;have H:=qAq hall;clear hall;by_cases hlt:k<38
 ·have hck:=HC.out k hlt;cases hm:kws.getD k []==s.toList
  ·have HM:=qAq hm;have hm2:(({ data:=(kws.getD k []).toArray }:ByteArray).toList==s.toList)=false:=(by rw[ByteArray.toList_eq];simpa using hm);clear hm;generalize ({ data:=(kws.getD k []).toArray }:ByteArray)=kk at hck hm2
   go_wp2
   exact⟨⟨k+1,by omega,by go_num,fun j hj=>by rcases (by omega:j<k∨j=k) with h|rfl;exact H.out j h;exact HM.out⟩,by simp[intOf];omega⟩
  have HM:=qAq hm;have hm2:(({ data:=(kws.getD k []).toArray }:ByteArray).toList==s.toList)=true:=(by rw[ByteArray.toList_eq];simpa using hm);clear hm;generalize ({ data:=(kws.getD k []).toArray }:ByteArray)=kk at hck hm2
  go_wp2
  go_ret;exact⟨aH (aHY k _ hlt HM.out),hb⟩
 obtain rfl:k=38:=by omega
 go_wp2
 go_ret;exact⟨aH (aFk _ H.out),hb⟩
def ltrOrDgt (c:UInt8):Bool:=ltr c || dgt c
theorem tK (s:ByteArray) (k:Nat) (h:k<s.size) (hb:ltrOrDgt s[k]=true) (ha:(s.data.toList.take k).all ltrOrDgt=true):(s.data.toList.take (k+1)).all ltrOrDgt=true:=by
 rw[nD s k h,List.all_append,ha];simp[hb]
theorem tL (s:ByteArray) (w:World) (hs:s.size<=maxLen) :
  Calls Tryz.prog 143 #[.string s] w fun e w'=>e=.returned (.bool (nameB s.data.toList))/\Below w.heap.size w w':=by
 unfold maxLen at hs;have hl:s.data.toList.length=s.size:=(by simp);have HL:=qAq hl;clear hl;by_cases h1:s.size<1
 ·go_enter Tryz.func143,Tryz.ntmps143
  go_wp2
  go_ret;exact⟨aH (nE _ (.inl (by rw[HL.out];exact h1))).symm,Below.refl _ _⟩
 by_cases h2:12<s.size
 ·go_enter Tryz.func143,Tryz.ntmps143
  go_wp2
  go_ret;exact⟨aH (nE _ (.inr (.inl (by rw[HL.out];exact h2)))).symm,Below.refl _ _⟩
 have h0:0<s.size:=(by omega);have e0:=aHl s 0 h0;have E0:=qAq e0;clear e0;cases hd:dgt s[0]
 ·have HD:=qAq hd;cases hk:kwB s.data.toList
  ·have HK:=qAq hk;go_enter Tryz.func143,Tryz.ntmps143
   go_wp2_with (first
    | (go_at_call 164;refine (dJ _ _).mono ?_;rintro e w' ⟨rfl,rfl⟩)
    | (go_at_call 165;refine (nG _ _).mono ?_;rintro e w' ⟨rfl,hb⟩))
   rename_i W;clear hd hk
   go_loop [3] (fun i=>∃ k:Nat,k<=s.size/\i=.int .i64 k/\(s.data.toList.take k).all ltrOrDgt=true) (fun i=>s.size-(intOf i).toNat)
   case atStart=>exact⟨0,Nat.zero_le _,rfl,by simp⟩
   obtain⟨k,hk,rfl,hall⟩:=hrel;have H:=qAq hall;clear hall;by_cases hlt:k<s.size
   ·cases c1:ltr s[k]
    ·have C1:=qAq c1;cases c2:dgt s[k]
     ·have C2:=qAq c2
      go_wp2_with (first
       | (go_at_call 166;refine (iG _ _).mono ?_;rintro e w' ⟨rfl,rfl⟩)
       | (go_at_call 164;refine (dJ _ _).mono ?_;rintro e w' ⟨rfl,rfl⟩))
      go_ret;exact⟨aH (aBw _ k _ (aHl s k hlt) C1.out C2.out).symm,hb⟩
     have C2:=qAq c2
     go_wp2_with (first
      | (go_at_call 166;refine (iG _ _).mono ?_;rintro e w' ⟨rfl,rfl⟩)
      | (go_at_call 164;refine (dJ _ _).mono ?_;rintro e w' ⟨rfl,rfl⟩))
     exact⟨⟨k+1,by omega,by go_num,tK s k hlt (by unfold ltrOrDgt;rw[C2.out];simp) H.out⟩,by simp[intOf];omega⟩
    have C1:=qAq c1
    go_wp2_with (first
     | (go_at_call 166;refine (iG _ _).mono ?_;rintro e w' ⟨rfl,rfl⟩)
     | (go_at_call 164;refine (dJ _ _).mono ?_;rintro e w' ⟨rfl,rfl⟩))
    exact⟨⟨k+1,by omega,by go_num,tK s k hlt (by unfold ltrOrDgt;rw[C1.out];simp) H.out⟩,by simp[intOf];omega⟩
   obtain rfl:k=s.size:=by omega
   go_wp2
   go_ret
   exact⟨aH (by
    have ha:=H.out;rw[List.take_of_length_le (by simp)] at ha;exact (aBv _ (by rw[HL.out];exact h1) (by rw[HL.out];exact h2) _ E0.out HD.out HK.out ha).symm),hb⟩
  have HK:=qAq hk;go_enter Tryz.func143,Tryz.ntmps143
  go_wp2_with (first
   | (go_at_call 164;refine (dJ _ _).mono ?_;rintro e w' ⟨rfl,rfl⟩)
   | (go_at_call 165;refine (nG _ _).mono ?_;rintro e w' ⟨rfl,hb⟩))
  go_ret;exact⟨aH (nE _ (.inr (.inr HK.out))).symm,hb⟩
 have HD:=qAq hd;go_enter Tryz.func143,Tryz.ntmps143
 go_wp2_with (first
  | (go_at_call 164;refine (dJ _ _).mono ?_;rintro e w' ⟨rfl,rfl⟩)
  | (go_at_call 165;refine (nG _ _).mono ?_;rintro e w' ⟨rfl,hb⟩))
 go_ret;exact⟨aH (tJ _ _ E0.out HD.out).symm,Below.refl _ _⟩
theorem tM (a:ByteArray):eqS a a=true:=eZ.2 rfl
theorem jH (a b:ByteArray):eqS a b=eqS b a:=by
 rw[Bool.eq_iff_iff,eZ,eZ];exact eq_comm
section
variable {α:Type} {p:α->Bool}
theorem jZ (l:List α):l.any p=(l.find? p).isSome:=by
 induction l with
 | nil=>rfl
 | cons a r ih =>
  rw[List.any_cons,List.find?_cons];cases h:p a <;> simp[ih]
theorem jI (l:List α):match l.findIdx? p with|none=>l.find? p=none|some j=>∃ h:j<l.length,l.find? p=some l[j]/\p l[j]=true:=by
 induction l with
 | nil=>rfl
 | cons a r ih =>
  rw[List.findIdx?_cons];cases h:p a
  ·simp only[Bool.false_eq_true,if_false];cases hj:r.findIdx? p with
   | none=>rw[hj] at ih;rw[List.find?_cons,h];exact ih
   | some j =>
    rw[hj] at ih;obtain⟨h1,h2,h3⟩:=ih;exact⟨by simpa using h1,by rw[List.find?_cons,h];exact h2,h3⟩
  ·simp only[if_true];exact⟨by simp,by rw[List.find?_cons,h];rfl,h⟩
end
theorem bY {n:Nat} {f:Nat->Bool} (h:∀ j,j<n->f j=true):(List.range n).all f=true:=by
 rw[List.all_eq_true];intro x hx;exact h x (List.mem_range.1 hx)
theorem bG {n:Nat} {f:Nat->Bool} (j:Nat) (hj:j<n) (h:f j=false):(List.range n).all f=false:=by
 rw[List.all_eq_false];exact⟨j,List.mem_range.2 hj,by simp[h]⟩
def ixT (l:List T) (x:ByteArray):Int:=match l.findIdx? (isT x) with|none=>-1|some j=>(j:Int)
def ixS (l:List ByteArray) (x:ByteArray):Int:=match l.findIdx? (eqS x) with|none=>-1|some j=>(j:Int)
def named (x:ByteArray):Bool:=nameB x.data.toList
def lim (ts:List T) (t:T):Bool:=decide (8<=ts.length) || (decide (t.cols.length<1) || (decide (6<t.cols.length) || decide (3<t.deps.length)))
def colGood (l:List C) (j:Nat):Bool:=match l[j]? with|some c=>named c.nm&&!hasC (l.take j) c.nm|none=>true
def colsGood (l:List C):Bool:=(List.range l.length).all (colGood l)
def keyGood (t:T):Bool:=eqS t.key e0 || hasC t.cols t.key
def leftAt (l:List C) (left:List ByteArray) (k:Nat):Bool:=match left[k]? with|some x=>hasC l x&&!hasS (left.take k) x|none=>true
def leftGood (l:List C) (left:List ByteArray):Bool:=(decide (1<=left.length)&&decide (left.length<=3))&&(List.range left.length).all (leftAt l left)
def depGood (l:List C) (d:D):Bool:=leftGood l d.left&&(hasC l d.right&&!hasS d.left d.right)
def depAt (l:List C) (ds:List D) (j:Nat):Bool:=match ds[j]? with|some d=>depGood l d|none=>true
def depsGood (l:List C) (ds:List D):Bool:=(List.range ds.length).all (depAt l ds)
def free (ts:List T) (x:ByteArray):Bool:=named x&&!hasT ts x
def namesGood (ts:List T) (t:T):Bool:=free ts t.nm&&(colsGood t.cols&&(keyGood t&&depsGood t.cols t.deps))
def kindAt (l:List C) (j:Nat):Bool:=match l[j]? with|some c=>decide (c.kd=1∨c.kd=2) | none=>true
def kindsGood (l:List C):Bool:=(List.range l.length).all (kindAt l)
def leads (ts:List T) (c:C):Int:=if eqS c.tgt e0=true then 0 else match findT ts c.tgt with|none=>3|some t=>match colOf t.cols t.key with|none=>9|some k=>if k.kd=c.kd then 0 else 4
def firstErr:List Int->Int
 | []=>0
 | x::r=>if x=0 then firstErr r else x
def mayP (ts:List T) (t:T):Int:=if lim ts t=true then 5 else if namesGood ts t=true then (if kindsGood t.cols=true then firstErr (t.cols.map (leads ts)) else 4) else 3
def addT (ts:List T) (t:T):List T:=if mayP ts t=0 then ts++[formT t] else ts
theorem fQ:∀ (l:List Int) (j:Nat) (h:j<l.length),l[j]≠0->(∀ i (hi:i<j),l[i]'(by omega)=0)->firstErr l=l[j]
 | [],j,h,_,_=>absurd h (Nat.not_lt_zero j)
 | a::r,0,_,hp,_=>by
  have hp:a≠0:=hp;simp[firstErr,hp]
 | a::r,j+1,h,hp,hn=>by
  have h0:a=0:=hn 0 (by omega);have hj:j<r.length:=by simpa using h
  have:=fQ r j hj hp (fun i hi=>hn (i+1) (by omega))
  rw[firstErr,if_pos h0];exact this
theorem eK:∀ (l:List Int),(∀ i (hi:i<l.length),l[i]=0)->firstErr l=0
 | [],_=>rfl
 | a::r,h=>by
  have h0:a=0:=h 0 (by simp);rw[firstErr,if_pos h0];exact eK r (fun i hi=>h (i+1) (by simpa using hi))
structure InvQ (ts:List T):Prop where
 len:ts.length<=8
 col:∀ t∈ts,∀ c∈t.cols,named c.nm=true
 key:∀ t∈ts,keyGood t=true
 one:∀ i (hi:i<ts.length),findT ts ts[i].nm=some ts[i]/\ixT ts ts[i].nm=(i:Int)
theorem aDa:named e0=false:=rfl
theorem aDb {x:ByteArray} (h:named x=true):eqS x e0=false:=by
 cases hx:eqS x e0
 ·rfl
 rw[eZ] at hx;subst hx;exact absurd h (by rw[aDa];decide)
theorem aDc {l:List C} (h:∀ c∈l,named c.nm=true):colOf l e0=none:=by
 unfold colOf;rw[List.find?_eq_none];intro c hc;unfold isC;rw[aDb (h c hc)];decide
theorem gG {ts:List T} {t:T} (h:mayP ts t=0):lim ts t=false/\namesGood ts t=true/\kindsGood t.cols=true/\firstErr (t.cols.map (leads ts))=0:=by
 unfold mayP at h;split at h
 ·omega
 split at h
 ·split at h
  ·rename_i h1 h2 h3;exact⟨by simpa using h1,h2,h3,h⟩
  omega
 omega
section
variable {W W':World} {v:Value} {n k:Nat} {xs:List Value}
end
def colVQ (c:C):Value:=.agg #[.string c.nm,.int .i64 c.kd,.bool c.mu,.string c.tgt]
def zeroC:C:=⟨e0,0,false,e0⟩
def orC (o:Option C):C:=o.getD zeroC
theorem iH {l:List C} {v:Value} {x:ByteArray} {W:World} (h:RdC W v l):Calls Tryz.prog 155 #[v,.string x] W fun e w'=>e=.returned (.tuple #[colVQ (orC (colOf l x)),.bool (hasC l x)])/\Below W.heap.size W w':=by
 obtain⟨p,cap,rfl,hc,hm⟩:=h.slice;obtain⟨n,hn⟩:∃ n,l.length=n:=⟨_,rfl⟩;unfold maxLen at hm;rw[hn] at hc ⊢;rw[hn] at h;obtain⟨S,hS⟩:∃ S,W.heap.size=S:=⟨_,rfl⟩;have HR:=qAq h;have HN:=qAq (qBq hn hS);clear h hn;go_enter Tryz.func155,Tryz.ntmps155;go_wp2_with fail;clear hS;go_loopg [10] (n+1) (fun gh jv w=>∃ (j:Nat),jv=.int .i64 (j:Int)/\j<=n/\n+1<=j+gh/\(∀ i (h:i<l.length),i<j->isC x l[i]=false)/\Below (S+1) (W.alloc (.cells #[.string e0,.int .i64 0,.bool false,.string e0] 95)) w)
 case atStart=>exact⟨0,rfl,Nat.zero_le _,by omega,fun i _ hi=>by omega,Below.refl _ _⟩
 obtain⟨j,rfl,hj,hg,hno,hB⟩:=hrel;have h0S:(W.alloc (.cells #[.string e0,.int .i64 0,.bool false,.string e0] 95)).heap[S]?=some (.cells #[.string e0,.int .i64 0,.bool false,.string e0] 95):=(by rw[<- HN.out.2];exact heap_alloc_new W _);have hres:=(hB.block S (Nat.lt_succ_self S)).trans h0S;have hBW:Below W.heap.size W wr:=(aD W _).trans (hB.mono (by rw[HN.out.2];omega));have hsz:S+1<=wr.heap.size:=(by have:=hB.size;rw[World.size_alloc,HN.out.2] at this;exact this);have HI:=qAq (qBq hno (qBq hB (qBq hBW hsz)));clear hno hB;by_cases hlt:j<n
 ·have hjl:j<l.length:=(by rw[HN.out.1];exact hlt);obtain⟨b,off,rfl,hb,c0,c1,c2,c3⟩:=RdC.col (HR.out.later hBW) hjl;clear hBW;obtain⟨c,hcj⟩:∃ c,l[j]=c:=⟨_,rfl⟩;rw[hcj] at c0 c1 c2 c3;have HC:=qAq hcj;clear hcj;cases hx:isC x c
  ·have HX:=qAq hx;have hx2:(c.nm.toList==x.toList)=false:=(by rw[aR];exact hx);clear hx;go_wp2_with fail;go_roundg (n-j)
   case measure=>omega
   refine⟨j+1,by go_num,by omega,by omega,fun i hi hij=>?_,HI.out.2.1.alloc HI.out.2.2.2 _⟩;by_cases e:i=j
   ·subst e;rw[HC.out];exact HX.out
   exact HI.out.1 i hi (by omega)
  have HX:=qAq hx;have hx2:(c.nm.toList==x.toList)=true:=(by rw[aR];exact hx);have z0:=aA hres 0;have z1:=aA hres 1;have z2:=aA hres 2;have z3:=aA hres 3;have zf:∀ i,wr.frozen? ⟨S,i,none⟩=false:=(fun i=>frozen_of_row wr S i _ _ hres);have hlS:S<wr.heap.size:=aC hres;have HZ:=qAq hres;clear hx hres;go_wp2_with fail;have hS4:=dH (u:=.cells #[Value.string c.nm,Value.int .i64 c.kd,Value.bool c.mu,Value.string c.tgt] 95) (set4 HZ.out (.string c.nm) (.int .i64 c.kd) (.bool c.mu) (.string c.tgt));have hBx:=bD HI.out.2.2.1 (show W.heap.size<=S by rw[HN.out.2];exact Nat.le_refl _) (.string c.nm) (.int .i64 c.kd) (.bool c.mu) (.string c.tgt);have hBy:=hBx.alloc hBx.size (.cells #[Value.string c.nm,Value.int .i64 c.kd,Value.bool c.mu,Value.string c.tgt] 95);generalize ((((wr.setCell _ _).setCell _ _).setCell _ _).setCell _ _).alloc _=wz at hS4 hBy ⊢;have y0:=aA hS4 0;have y1:=aA hS4 1;have y2:=aA hS4 2;have y3:=aA hS4 3;obtain⟨f1,f2,_⟩:=eN (p:=isC x) l j (by rw[HN.out.1];exact hlt) (by rw[HC.out];exact HX.out) (fun i hi=>HI.out.1 i _ hi);refine bodyPost_ret (v:=.tuple #[colVQ c,.bool true]) (by simp[results,Tryz.results155,go_sem,y0,y1,y2,y3,colVQ]) rfl ?_;refine⟨?_,hBy⟩;unfold colOf hasC orC;rw[f1,f2,HC.out];rfl
 have z0:=aA hres 0;have z1:=aA hres 1;have z2:=aA hres 2;have z3:=aA hres 3;have zf:∀ i,wr.frozen? ⟨S,i,none⟩=false:=(fun i=>frozen_of_row wr S i _ _ hres);have hlS:S<wr.heap.size:=aC hres;have HZ:=qAq hres;clear hres;go_wp2_with fail;have hS4:=set4 HZ.out (.string e0) (.int .i64 0) (.bool false) (.string e0);have hBx:=bD HI.out.2.2.1 (show W.heap.size<=S by rw[HN.out.2];exact Nat.le_refl _) (.string e0) (.int .i64 0) (.bool false) (.string e0);generalize (((wr.setCell _ _).setCell _ _).setCell _ _).setCell _ _=wz at hS4 hBx ⊢;have y0:=aA hS4 0;have y1:=aA hS4 1;have y2:=aA hS4 2;have y3:=aA hS4 3;obtain⟨f1,f2,_⟩:=iZ (p:=isC x) l (fun i hi=>HI.out.1 i hi (by have:=HN.out.1;omega));refine bodyPost_ret (v:=.tuple #[colVQ zeroC,.bool false]) (by simp[results,Tryz.results155,go_sem,y0,y1,y2,y3,colVQ,zeroC]) rfl ?_;refine⟨?_,hBx⟩;unfold colOf hasC orC;rw[f1,f2];rfl
theorem aAa {l:List C} {v:Value} {x:ByteArray} {W:World} (h:RdC W v l):Calls Tryz.prog 161 #[v,.string x] W fun e w'=>e=.returned (.bool (hasC l x))/\Below W.heap.size W w':=by
 have hc:=iH (x:=x) h;obtain⟨p,cap,rfl,_,_⟩:=h.slice;generalize orC (colOf l x)=c at hc;generalize hasC l x=r at hc ⊢;unfold colVQ at hc;clear h;go_enter Tryz.func161,Tryz.ntmps161;go_wp2_with (go_at_call 155;(with_reducible refine hc.mono ?_);rintro e w1 ⟨rfl,hb⟩);go_ret;exact⟨rfl,hb.alloc hb.size _⟩
theorem aHm {l:List ByteArray} {x:ByteArray} (j:Nat) (h:j<l.length) (hp:eqS x l[j]=true) (hn:∀ i (hi:i<j),eqS x (l[i]'(by omega))=false):ixS l x=(j:Int)/\hasS l x=true:=by
 obtain⟨_,h2,h3⟩:=eN (p:=eqS x) l j h hp hn;unfold ixS hasS;rw[h3];exact⟨rfl,h2⟩
theorem aDd {l:List ByteArray} {x:ByteArray} (hn:∀ i (hi:i<l.length),eqS x l[i]=false):ixS l x=-1/\hasS l x=false:=by
 obtain⟨_,h2,h3⟩:=iZ (p:=eqS x) l hn;unfold ixS hasS;rw[h3];exact⟨rfl,h2⟩
theorem aFl (l:List ByteArray) (x:ByteArray):decide (0<=ixS l x)=hasS l x:=by
 unfold ixS hasS;rw[jZ]
 have:=jI (p:=eqS x) l
 cases h:l.findIdx? (eqS x) with
 | none=>rw[h] at this;simp only at this;rw[this];rfl
 | some j=>rw[h] at this;obtain⟨h1,h2,h3⟩:=this;rw[h2];simp
theorem aBy {l:List ByteArray} {v:Value} {x:ByteArray} {W:World} (h:RdS W v l):Calls Tryz.prog 183 #[v,.string x] W fun e w'=>e=.returned (.int .i64 (ixS l x))/\w'=W:=by
 obtain⟨p,cap,rfl,hc,hm⟩:=h.slice;obtain⟨n,hn⟩:∃ n,l.length=n:=⟨_,rfl⟩;unfold maxLen at hm;rw[hn] at hc ⊢;rw[hn] at h;have HR:=qAq h;have HN:=qAq hn;clear h hn;go_enter Tryz.func183,Tryz.ntmps183;go_wp2_with fail;go_loopg [5,8] (n+1) (fun gh _ jv w=>∃ (j:Nat),jv=.int .i64 (j:Int)/\j<=n/\n+1<=j+gh/\(∀ i (h:i<l.length),i<j->eqS x l[i]=false)/\w=W)
 case atStart=>exact⟨0,rfl,Nat.zero_le _,by omega,fun i _ hi=>by omega,rfl⟩
 obtain⟨j,rfl,hj,hg,hno,rfl⟩:=hrel;have HI:=qAq hno;clear hno;by_cases hlt:j<n
 ·have hjl:j<l.length:=(by rw[HN.out];exact hlt);obtain⟨b,off,rfl,hb,c0⟩:=RdS.word HR.out hjl;obtain⟨c,hcj⟩:∃ c,l[j]=c:=⟨_,rfl⟩;rw[hcj] at c0;have HC:=qAq hcj;clear hcj;cases hx:eqS x c
  ·have HX:=qAq hx;have hx2:(x.toList==c.toList)=false:=(by rw[aR];exact hx);clear hx;go_wp2_with fail;go_roundg (n-j)
   case measure=>omega
   refine⟨j+1,by go_num,by omega,by omega,fun i hi hij=>?_,rfl⟩;by_cases e:i=j
   ·subst e;rw[HC.out];exact HX.out
   exact HI.out i hi (by omega)
  have HX:=qAq hx;have hx2:(x.toList==c.toList)=true:=(by rw[aR];exact hx);clear hx;go_wp2_with fail;go_ret;exact⟨aQ (aHm j (by rw[HN.out];exact hlt) (by rw[HC.out];exact HX.out) (fun i hi=>HI.out i _ hi)).1.symm,rfl⟩
 go_wp2_with fail;go_ret;exact⟨aQ (aDd (fun i hi=>HI.out i hi (by have:=HN.out;omega))).1.symm,rfl⟩
theorem jJ {l:List ByteArray} {v:Value} {x:ByteArray} {W:World} (h:RdS W v l):Calls Tryz.prog 163 #[v,.string x] W fun e w'=>e=.returned (.bool (hasS l x))/\w'=W:=by
 have hc:=aBy (x:=x) h;have he:=aFl l x;obtain⟨p,cap,rfl,_,_⟩:=h.slice;generalize ixS l x=z at hc he;clear h;have HE:=qAq he;clear he;go_enter Tryz.func163,Tryz.ntmps163;go_wp2_with (go_at_call 183;(with_reducible refine hc.mono ?_);rintro e w1 ⟨rfl,rfl⟩);go_ret;exact⟨aH HE.out,rfl⟩
def SmC (l:List C):Prop:=∀ c∈l,c.nm.size<=maxLen
def SmQ (t:T):Prop:=t.nm.size<=maxLen/\SmC t.cols
theorem dW {x:ByteArray} {b:Bool} (h:named x=b) (w:World) (hs:x.size<=maxLen):Calls Tryz.prog 160 #[.string x] w fun e w'=>e=.returned (.bool b)/\w=w':=h▸aCZ x w hs
theorem kB {l:List C} {v:Value} {x:ByteArray} {W:World} {b:Bool} (h:RdC W v l) (hb:hasC l x=b):Calls Tryz.prog 161 #[v,.string x] W fun e w'=>e=.returned (.bool b)/\Below W.heap.size W w':=hb▸aAa h
theorem nH {l:List C} {j:Nat} (hj:j<l.length):colGood l j=(named l[j].nm&&!hasC (l.take j) l[j].nm):=by
 unfold colGood;rw[List.getElem?_eq_getElem hj]
theorem oW {l:List C} {v:Value} {W:World} (h:RdC W v l) (hs:SmC l):Calls Tryz.prog 138 #[v] W fun e w'=>e=.returned (.bool (colsGood l))/\Below W.heap.size W w':=by
 obtain⟨p,cap,rfl,hc,hm⟩:=h.slice;obtain⟨n,hn⟩:∃ n,l.length=n:=⟨_,rfl⟩;unfold maxLen at hm;rw[hn] at hc ⊢;rw[hn] at h;have HR:=qAq h;have HN:=qAq (qBq hn hs);clear h hn hs;go_enter Tryz.func138,Tryz.ntmps138;go_wp2_with fail;go_loopg [3,7] (n+1) (fun gh _ jv w=>∃ (j:Nat),jv=.int .i64 (j:Int)/\j<=n/\n+1<=j+gh/\(∀ i,i<j->colGood l i=true)/\Below W.heap.size W w)
 case atStart=>exact⟨0,rfl,Nat.zero_le _,by omega,fun i hi=>by omega,Below.refl _ _⟩
 obtain⟨j,rfl,hj,hg,hno,hB⟩:=hrel;have HI:=qAq (qBq hno hB);clear hno;by_cases hlt:j<n
 ·have hjl:j<l.length:=(by rw[HN.out.1];exact hlt);obtain⟨b,off,rfl,hb,c0,c1,c2,c3⟩:=RdC.col (HR.out.later hB) hjl;obtain⟨c,hcj⟩:∃ c,l[j]=c:=⟨_,rfl⟩;rw[hcj] at c0 c1 c2 c3;have hG:=nH hjl;rw[hcj] at hG;have hsz:c.nm.size<=maxLen:=HN.out.2 c (by rw[<- hcj];exact List.getElem_mem _);have HG:=qAq (qBq hG hsz);have HK:=qAq (KeepC.new (c:=c) (HR.out.later hB) hB hB.size);clear hcj hB hG hsz;have hjc:(j:Int)<=(cap:Int):=(by omega);have hjn:cap≠j:=(by omega);go_upto_region 4 with fail;obtain⟨S,hS⟩:∃ S,wr.heap.size=S:=⟨_,rfl⟩;obtain⟨w1,hw1⟩:∃ w1,wr.alloc (.cells #[.string c.nm,.int .i64 c.kd,.bool c.mu,.string c.tgt] 95)=w1:=⟨_,rfl⟩;rw[hw1,hS] at HK;rw[hw1,hS];clear hw1 hS;have htk:∀ w,RdC w (.slice (some ⟨b,off,none⟩) n cap) l->RdC w (.slice (some ⟨b,off,none⟩) j cap) (l.take j):=(fun w h=>RdC.take (n:=n) h (by omega));cases hnm:named c.nm
  ·refine Par.wp_region_par 12 [.pointer (some ⟨S,0,none⟩),.string (c.nm),.bool false,.bool true,.bool true,undef,undef,undef,undef,undef,undef,.bool true] (KeepC W.heap.size W S c (.slice (some ⟨b,off,none⟩) n cap) l) ?A1 ?hm1 ?hB1 ?hA1 (HK.out.on (aG w1 1)) ?hop1 ?hT1
   case hm1=>kernel_rfl
   case hB1=>kernel_rfl
   case hA1 =>
    simp only[Par.putA,Par.dstAt,Act.put,qDq,qEq,qFq,qLq,qGq,qHq,qIq,qJq,qKq];rfl
   case hop1 =>
    simp only[qMq,List.take_zero,Par.GiveAll,and_true];and_intros<;>intro w' hR<;>have HR:=qAq hR
    rotate_left;have k:=hR.cell.2.1;rotate_left
    ·clear hR;simp only[Par.Gives];go_simp;exact (dW hnm w' HG.out.2).mono (fun e w'' ⟨he,hb⟩=>⟨he,hb▸HR.out⟩)
    rotate_left 9
    all_goals(clear hR;simp only[Par.Gives];go_simp;all_goals exact HR.out)
   intro w' hR;simp only[qNq,List.drop_nil];go_wp2_with fail;go_ret;exact⟨aH (bG j hjl (by rw[HG.out.1,hnm];rfl)).symm,hR.2.2.1⟩
  cases hhs:hasC (l.take j) c.nm
  ·refine Par.wp_region_par 12 [.pointer (some ⟨S,0,none⟩),.string (c.nm),.bool true,.bool false,.bool false,.slice (some ⟨b,off,none⟩) n cap, .int .i64 ((j:Int)),.slice (some ⟨b,off,none⟩) j cap,.pointer (some ⟨S,0,none⟩),.string (c.nm),.bool false,.bool false] (KeepC W.heap.size W S c (.slice (some ⟨b,off,none⟩) n cap) l) ?A2 ?hm2 ?hB2 ?hA2 (HK.out.on (aG w1 1)) ?hop2 ?hT2
   case hm2=>kernel_rfl
   case hB2=>kernel_rfl
   case hA2 =>
    simp only[Par.putA,Par.dstAt,Act.put,qDq,qEq,qFq,qLq,qGq,qHq,qIq,qJq,qKq];rfl
   case hop2 =>
    simp only[qMq,List.take_zero,Par.GiveAll,and_true];and_intros<;>intro w' hR<;>have HR:=qAq hR
    rotate_left;have k:=hR.cell.2.1;rotate_left
    ·clear hR;simp only[Par.Gives];go_simp;exact (dW hnm w' HG.out.2).mono (fun e w'' ⟨he,hb⟩=>⟨he,hb▸HR.out⟩)
    rotate_left 6;have k:=hR.cell.2.1;rotate_left
    ·clear hR;simp only[Par.Gives];go_simp;exact (kB (htk _ HR.out.2.1) hhs).mono (fun e w'' ⟨he,hb⟩=>⟨he,HR.out.on hb⟩)
    rotate_left
    all_goals(clear hR;simp only[Par.Gives];go_simp;all_goals exact HR.out)
   intro w' hR;simp only[qNq,List.drop_nil];go_wp2_with fail;go_roundg (n-j)
   case measure=>omega
   exact⟨j+1,by go_num,by omega,by omega,fun i hi=>by rcases (by omega:i<j∨i=j) with h|rfl;exact HI.out.1 i h;rw[HG.out.1,hnm,hhs];rfl,hR.2.2.1⟩
  refine Par.wp_region_par 12 [.pointer (some ⟨S,0,none⟩),.string (c.nm),.bool true,.bool false,.bool false,.slice (some ⟨b,off,none⟩) n cap, .int .i64 ((j:Int)),.slice (some ⟨b,off,none⟩) j cap,.pointer (some ⟨S,0,none⟩),.string (c.nm),.bool true,.bool true] (KeepC W.heap.size W S c (.slice (some ⟨b,off,none⟩) n cap) l) ?A3 ?hm3 ?hB3 ?hA3 (HK.out.on (aG w1 1)) ?hop3 ?hT3
  case hm3=>kernel_rfl
  case hB3=>kernel_rfl
  case hA3 =>
   simp only[Par.putA,Par.dstAt,Act.put,qDq,qEq,qFq,qLq,qGq,qHq,qIq,qJq,qKq];rfl
  case hop3 =>
   simp only[qMq,List.take_zero,Par.GiveAll,and_true];and_intros<;>intro w' hR<;>have HR:=qAq hR
   rotate_left;have k:=hR.cell.2.1;rotate_left
   ·clear hR;simp only[Par.Gives];go_simp;exact (dW hnm w' HG.out.2).mono (fun e w'' ⟨he,hb⟩=>⟨he,hb▸HR.out⟩)
   rotate_left 6;have k:=hR.cell.2.1;rotate_left
   ·clear hR;simp only[Par.Gives];go_simp;exact (kB (htk _ HR.out.2.1) hhs).mono (fun e w'' ⟨he,hb⟩=>⟨he,HR.out.on hb⟩)
   rotate_left
   all_goals(clear hR;simp only[Par.Gives];go_simp;all_goals exact HR.out)
  intro w' hR;simp only[qNq,List.drop_nil];go_wp2_with fail;go_ret;exact⟨aH (bG j hjl (by rw[HG.out.1,hnm,hhs];rfl)).symm,hR.2.2.1⟩
 go_wp2_with fail;go_ret;exact⟨aH (bY (fun i hi=>HI.out.1 i (by have:=HN.out.1;omega))).symm,HI.out.2⟩
theorem dC (x:ByteArray):x.toList.isEmpty=eqS x e0:=by
 rw[ByteArray.toList_eq];unfold eqS;cases x.data.toList <;> rfl
theorem rG {t:T} {cv dv:Value} {W:World} (h:RdT W cv dv t):Calls Tryz.prog 139 #[.agg #[.string t.nm,cv,.string t.key,dv]] W fun e w'=>e=.returned (.bool (keyGood t))/\Below W.heap.size W w':=by
 have hB:=aD W (boxT t.nm cv t.key dv);have hc:=(fun (b:Bool) (hb:hasC t.cols t.key=b)=>kB (h.1.later hB) hb);obtain⟨p,cap,rfl,_,_⟩:=h.1.slice;generalize t.cols.length=n at *;cases hk:eqS t.key e0
 ·have he:t.key.toList.isEmpty=false:=(by rw[dC];exact hk);cases hh:hasC t.cols t.key
  ·have HG:Hid (keyGood t=false):=qAq (by unfold keyGood;rw[hk,hh];rfl);have hc:=hc _ hh;clear h hk hh;go_enter Tryz.func139,Tryz.ntmps139;go_wp2_with (go_at_call 161;(with_reducible refine hc.mono ?_);rintro e w1 ⟨rfl,hb⟩);go_ret;exact⟨aH HG.out.symm,aB hB hb⟩
  have HG:Hid (keyGood t=true):=qAq (by unfold keyGood;rw[hk,hh];rfl);have hc:=hc _ hh;clear h hk hh;go_enter Tryz.func139,Tryz.ntmps139;go_wp2_with (go_at_call 161;(with_reducible refine hc.mono ?_);rintro e w1 ⟨rfl,hb⟩);go_ret;exact⟨aH HG.out.symm,aB hB hb⟩
 have he:t.key.toList.isEmpty=true:=(by rw[dC];exact hk);have HG:Hid (keyGood t=true):=qAq (by unfold keyGood;rw[hk];rfl);clear h hk;go_enter Tryz.func139,Tryz.ntmps139;go_wp2_with fail;go_ret;exact⟨aH HG.out.symm,hB⟩
theorem kC {l:List C} {left:List ByteArray} {j:Nat} (hj:j<left.length):leftAt l left j=(hasC l left[j]&&!hasS (left.take j) left[j]):=by
 unfold leftAt;rw[List.getElem?_eq_getElem hj]
theorem lG {l:List ByteArray} {v:Value} {x:ByteArray} {W:World} {b:Bool} (h:RdS W v l) (hb:hasS l x=b):Calls Tryz.prog 163 #[v,.string x] W fun e w'=>e=.returned (.bool b)/\w'=W:=hb▸jJ h
theorem oX {l:List C} {left:List ByteArray} {cv lv:Value} {W:World} (h:RdC W cv l) (hs:RdS W lv left):Calls Tryz.prog 162 #[cv,lv] W fun e w'=>e=.returned (.bool (leftGood l left))/\Below W.heap.size W w':=by
 obtain⟨pc,cc,rfl,hc,hm⟩:=h.slice;obtain⟨p,cap,rfl,hc2,hm2⟩:=hs.slice;obtain⟨n,hn⟩:∃ n,left.length=n:=⟨_,rfl⟩;obtain⟨nc,hnc⟩:∃ n,l.length=n:=⟨_,rfl⟩;unfold maxLen at hm2;rw[hn] at hc2 hs ⊢;rw[hnc] at h ⊢;have HR:=qAq (qBq h hs);have HN:=qAq hn;clear h hs hn hnc hc hm;by_cases h0:n=0
 ·subst h0;go_enter Tryz.func162,Tryz.ntmps162;go_wp2_with fail;go_ret;exact⟨aH (by unfold leftGood;rw[HN.out];rfl),Below.refl _ _⟩
 by_cases h3:3<n
 ·have hz:((n:Int)==0)=false:=beq_eq_false_iff_ne.2 (by omega);go_enter Tryz.func162,Tryz.ntmps162;go_wp2_with fail;go_ret;exact⟨aH (by unfold leftGood;rw[HN.out,decide_eq_false (show ¬ n<=3 by omega)];simp),Below.refl _ _⟩
 have hz:((n:Int)==0)=false:=beq_eq_false_iff_ne.2 (by omega);have HL:Hid (leftGood l left=(List.range n).all (leftAt l left)):=qAq (by unfold leftGood;rw[HN.out,decide_eq_true (show n<=3 by omega),decide_eq_true (show 1<=n by omega)];rfl);go_enter Tryz.func162,Tryz.ntmps162;go_wp2_with fail;clear hz;go_loopg [5,6,17] (n+1) (fun gh _ _ jv w=>∃ (j:Nat),jv=.int .i64 (j:Int)/\j<=n/\n+1<=j+gh/\(∀ i,i<j->leftAt l left i=true)/\Below W.heap.size W w)
 case atStart=>exact⟨0,rfl,Nat.zero_le _,by omega,fun i hi=>by omega,Below.refl _ _⟩
 obtain⟨j,rfl,hj,hg,hno,hB⟩:=hrel;have HI:=qAq (qBq hno hB);clear hno;by_cases hlt:j<n
 ·have hjl:j<left.length:=(by rw[HN.out];exact hlt);have hsr:=HR.out.2.later hB;obtain⟨b,off,rfl,hb,c0⟩:=RdS.word hsr hjl;have hst:RdS wr (.slice (some ⟨b,off,none⟩) j cap) (left.take j):=RdS.take hsr (by omega);have hcr:=HR.out.1.later hB;obtain⟨c,hcj⟩:∃ c,left[j]=c:=⟨_,rfl⟩;have hG:=kC (l:=l) hjl;rw[hcj] at c0 hG;have hjc:(j:Int)<=(cap:Int):=(by omega);have hjn:cap≠j:=(by omega);clear hcj hB;cases hh:hasC l c
  ·have HG:Hid (leftAt l left j=false):=qAq (by rw[hG,hh];rfl);have hca:=kB hcr hh;clear hG hh hcr hsr hst;go_wp2_with (go_at_call 161;(with_reducible refine hca.mono ?_);rintro e w1 ⟨rfl,hb1⟩);go_ret;exact⟨aH (by rw[HL.out];exact (bG j hlt HG.out).symm),aB HI.out.2 hb1⟩
  cases hh2:hasS (left.take j) c
  ·have HG:Hid (leftAt l left j=true):=qAq (by rw[hG,hh,hh2];rfl);have hca:=kB hcr hh;have hcb:∀ {w:World},Below wr.heap.size wr w->_:=(fun {w} hb=>lG (W:=w) (hst.later hb) hh2);clear hG hh hcr hsr hst hh2
   go_wp2_with (first
    | (go_at_call 161;(with_reducible refine hca.mono ?_);rintro e w1 ⟨rfl,hb1⟩)
    | (go_at_call 163;(with_reducible refine (hcb hb1).mono ?_);rintro e w1 ⟨rfl,rfl⟩))
   go_roundg (n-j)
   case measure=>omega
   exact⟨j+1,by go_num,by omega,by omega,fun i hi=>by rcases (by omega:i<j∨i=j) with h|rfl;exact HI.out.1 i h;exact HG.out,aB HI.out.2 hb1⟩
  have HG:Hid (leftAt l left j=false):=qAq (by rw[hG,hh,hh2];rfl);have hca:=kB hcr hh;have hcb:∀ {w:World},Below wr.heap.size wr w->_:=(fun {w} hb=>lG (W:=w) (hst.later hb) hh2);clear hG hh hcr hsr hst hh2
  go_wp2_with (first
   | (go_at_call 161;(with_reducible refine hca.mono ?_);rintro e w1 ⟨rfl,hb1⟩)
   | (go_at_call 163;(with_reducible refine (hcb hb1).mono ?_);rintro e w1 ⟨rfl,rfl⟩))
  go_ret;exact⟨aH (by rw[HL.out];exact (bG j hlt HG.out).symm),aB HI.out.2 hb1⟩
 go_wp2_with fail;go_ret;exact⟨aH (by rw[HL.out];exact (bY (fun i hi=>HI.out.1 i (by omega))).symm),HI.out.2⟩
theorem pL {l:List C} {j:Nat} (hj:j<l.length):kindAt l j=decide (l[j].kd=1∨l[j].kd=2):=by
 unfold kindAt;rw[List.getElem?_eq_getElem hj]
theorem xJ {l:List C} {v:Value} {W:World} (h:RdC W v l):Calls Tryz.prog 141 #[v] W fun e w'=>e=.returned (.bool (kindsGood l))/\Below W.heap.size W w':=by
 obtain⟨p,cap,rfl,hc,hm⟩:=h.slice;obtain⟨n,hn⟩:∃ n,l.length=n:=⟨_,rfl⟩;unfold maxLen at hm;rw[hn] at hc ⊢;rw[hn] at h;have HR:=qAq h;have HN:=qAq hn;clear h hn;go_enter Tryz.func141,Tryz.ntmps141;go_wp2_with fail;go_loopg [7] (n+1) (fun gh jv w=>∃ (j:Nat),jv=.int .i64 (j:Int)/\j<=n/\n+1<=j+gh/\(∀ i,i<j->kindAt l i=true)/\Below W.heap.size W w)
 case atStart=>exact⟨0,rfl,Nat.zero_le _,by omega,fun i hi=>by omega,Below.refl _ _⟩
 obtain⟨j,rfl,hj,hg,hno,hB⟩:=hrel;have HI:=qAq (qBq hno hB);clear hno;by_cases hlt:j<n
 ·have hjl:j<l.length:=(by rw[HN.out];exact hlt);obtain⟨b,off,rfl,hb,c0,c1,c2,c3⟩:=RdC.col (HR.out.later hB) hjl;obtain⟨c,hcj⟩:∃ c,l[j]=c:=⟨_,rfl⟩;rw[hcj] at c0 c1 c2 c3;have hG:=pL hjl;rw[hcj] at hG;have HG:=qAq hG;clear hcj hB hG;by_cases h1:c.kd=1
  ·have e1:(c.kd != 1)=false:=(by simp[h1]);have H1:=qAq h1;clear h1;go_wp2_with fail;go_roundg (n-j)
   case measure=>omega
   exact⟨j+1,by go_num,by omega,by omega,fun i hi=>by rcases (by omega:i<j∨i=j) with h|rfl;exact HI.out.1 i h;rw[HG.out,decide_eq_true (.inl H1.out)],HI.out.2.alloc HI.out.2.size _⟩
  have e1:(c.kd != 1)=true:=(by simp[h1]);by_cases h2:c.kd=2
  ·have e2:(c.kd != 2)=false:=(by simp[h2]);have H2:=qAq h2;clear h1 h2;go_wp2_with fail;go_roundg (n-j)
   case measure=>omega
   exact⟨j+1,by go_num,by omega,by omega,fun i hi=>by rcases (by omega:i<j∨i=j) with h|rfl;exact HI.out.1 i h;rw[HG.out,decide_eq_true (.inr H2.out)],HI.out.2.alloc HI.out.2.size _⟩
  have e2:(c.kd != 2)=true:=(by simp[h2]);have H2:Hid (¬ (c.kd=1∨c.kd=2)):=qAq (fun h=>h.elim h1 h2);clear h1 h2;go_wp2_with fail;go_ret;exact⟨aH (bG j hjl (by rw[HG.out,decide_eq_false H2.out])).symm,HI.out.2.alloc HI.out.2.size _⟩
 go_wp2_with fail;go_ret;exact⟨aH (bY (fun i hi=>HI.out.1 i (by have:=HN.out;omega))).symm,HI.out.2⟩
section
variable {B:Nat} {W0:World} {S0:Nat} {t:T} {cv dv:Value} {w w':World}
end
section
variable {B:Nat} {W0:World} {S0 S:Nat} {t:T} {cv dv:Value} {d:D} {lv:Value} {w w':World}
end
theorem jK {l:List C} {left:List ByteArray} {cv lv:Value} {W:World} {b:Bool} (h:RdC W cv l) (hs:RdS W lv left) (hb:leftGood l left=b):Calls Tryz.prog 162 #[cv,lv] W fun e w'=>e=.returned (.bool b)/\Below W.heap.size W w':=hb▸oX h hs
theorem aDe {l:List C} {ds:List D} {j:Nat} (hj:j<ds.length):depAt l ds j=(leftGood l ds[j].left&&(hasC l ds[j].right&&!hasS ds[j].left ds[j].right)):=by
 unfold depAt;rw[List.getElem?_eq_getElem hj];rfl
theorem oY {t:T} {cv dv:Value} {W:World} (h:RdT W cv dv t):Calls Tryz.prog 140 #[.agg #[.string t.nm,cv,.string t.key,dv]] W fun e w'=>e=.returned (.bool (depsGood t.cols t.deps))/\Below W.heap.size W w':=by
 have HK:=qAq (KeepT.new h);obtain⟨pc,cc,hcv,_,_⟩:=h.1.slice;obtain⟨p,cap,hdv,hc,hm⟩:=h.2.slice;obtain⟨nc,hnc⟩:∃ n,t.cols.length=n:=⟨_,rfl⟩;obtain⟨n,hn⟩:∃ n,t.deps.length=n:=⟨_,rfl⟩;obtain⟨B,hB⟩:∃ B,W.heap.size=B:=⟨_,rfl⟩;unfold maxLen at hm;rw[hn] at hc hdv;rw[hnc] at hcv;subst hcv hdv;have HN:=qAq hn;rw[hB] at HK;have hB2:=qAq hB;clear h hn hnc;go_enter Tryz.func140,Tryz.ntmps140;go_upto_region 1 with fail;obtain⟨w0,hw0⟩:∃ w0,W.alloc (boxT t.nm (.slice pc nc cc) t.key (.slice p n cap))=w0:=⟨_,rfl⟩;rw[hw0] at HK ⊢;clear hw0;obtain⟨hlt0,_,z1,_,z3⟩:=HK.out.cells;go_wp2_with fail;clear z1 z3 hlt0;go_loopg [8] (n+1) (fun gh jv w=>∃ (j:Nat),jv=.int .i64 (j:Int)/\j<=n/\n+1<=j+gh/\(∀ i,i<j->depAt t.cols t.deps i=true)/\KeepT B W B t (.slice pc nc cc) (.slice p n cap) w)
 case atStart=>exact⟨0,rfl,Nat.zero_le _,by omega,fun i hi=>by omega,HK.out⟩
 obtain⟨j,rfl,hj,hg,hno,hK⟩:=hrel;have HI:=qAq (qBq hno hK);clear hno;by_cases hlt:j<n
 ·have hjl:j<t.deps.length:=(by rw[HN.out];exact hlt);obtain⟨b,off,lv,rfl,hb,c0,c1,hlv⟩:=RdD.dep hK.tab.2 hjl;obtain⟨d,hdj⟩:∃ d,t.deps[j]=d:=⟨_,rfl⟩;have hG:=aDe (l:=t.cols) hjl;rw[hdj] at c1 hlv hG;obtain⟨pl,cl,rfl,_,_⟩:=hlv.slice;obtain⟨nl,hnl⟩:∃ n,d.left.length=n:=⟨_,rfl⟩;rw[hnl] at hlv c0;have HD:=qAq (KeepD.new hK hlv);clear hdj hK hlv hnl;go_upto_region 4 with fail;obtain⟨S,hS⟩:∃ S,wr.heap.size=S:=⟨_,rfl⟩;obtain⟨w1,hw1⟩:∃ w1,wr.alloc (.cells #[.slice pl nl cl,.string d.right] 124)=w1:=⟨_,rfl⟩;rw[hw1,hS] at HD ⊢;clear hw1 hS c0 c1 hb;obtain⟨y0,y1,y2⟩:=HD.out.cells;obtain⟨hlt0,_,z1,_,_⟩:=HD.out.tb.cells;cases hl:leftGood t.cols d.left
  ·have HG:Hid (depAt t.cols t.deps j=false):=qAq (by rw[hG,hl];rfl);have hca:=jK HD.out.tb.tab.1 HD.out.left hl;clear hG hl;go_wp2_with (go_at_call 162;(with_reducible refine hca.mono ?_);rintro e w2 ⟨rfl,hb2⟩);go_ret;exact⟨aH (bG j hjl HG.out).symm,hB2.out▸(HD.out.on hb2).tb.below⟩
  have hca:=jK HD.out.tb.tab.1 HD.out.left hl;have hcb:∀ {w:World},KeepD B W B S t (.slice pc nc cc) (.slice (some ⟨b,off,none⟩) n cap) d (.slice pl nl cl) w->_:=(fun {w} hK=>aAa (x:=d.right) (W:=w) hK.tb.tab.1);have hcc:∀ {w:World},KeepD B W B S t (.slice pc nc cc) (.slice (some ⟨b,off,none⟩) n cap) d (.slice pl nl cl) w->_:=(fun {w} hK=>jJ (x:=d.right) (W:=w) hK.left);cases hh:hasC t.cols d.right
  ·have HG:Hid (depAt t.cols t.deps j=false):=qAq (by rw[hG,hl,hh];rfl);rw[hh] at hcb;clear hG hl hh hcc
   go_wp2_with (first
    | (go_at_call 162;(with_reducible refine hca.mono ?_);rintro e w2 ⟨rfl,hb2⟩;have H2:=qAq (HD.out.on hb2);obtain⟨x0,x1,x2⟩:=H2.out.cells;obtain⟨x3,_,x4,_,_⟩:=H2.out.tb.cells;clear hb2 hca)
    | (go_at_call 161;(with_reducible refine (hcb H2.out).mono ?_);rintro e w3 ⟨rfl,hb3⟩))
   go_ret;exact⟨aH (bG j hjl HG.out).symm,hB2.out▸(H2.out.on hb3).tb.below⟩
  rw[hh] at hcb;cases hh2:hasS d.left d.right
  ·have HG:Hid (depAt t.cols t.deps j=true):=qAq (by rw[hG,hl,hh,hh2];rfl);rw[hh2] at hcc;clear hG hl hh hh2
   go_wp2_with (first
    | (go_at_call 162;(with_reducible refine hca.mono ?_);rintro e w2 ⟨rfl,hb2⟩;have H2:=qAq (HD.out.on hb2);obtain⟨x0,x1,x2⟩:=H2.out.cells;obtain⟨x3,_,x4,_,_⟩:=H2.out.tb.cells;clear hb2 hca)
    | (go_at_call 161;(with_reducible refine (hcb H2.out).mono ?_);rintro e w3 ⟨rfl,hb3⟩;have H3:=qAq (H2.out.on hb3);obtain⟨q0,q1,q2⟩:=H3.out.cells;obtain⟨q3,_,q4,_,_⟩:=H3.out.tb.cells;clear hb3 hcb)
    | (go_at_call 163;(with_reducible refine (hcc H3.out).mono ?_);rintro e w4 ⟨rfl,rfl⟩))
   go_roundg (n-j)
   case measure=>omega
   exact⟨j+1,by go_num,by omega,by omega,fun i hi=>by rcases (by omega:i<j∨i=j) with h|rfl;exact HI.out.1 i h;exact HG.out,H3.out.tb⟩
  have HG:Hid (depAt t.cols t.deps j=false):=qAq (by rw[hG,hl,hh,hh2];rfl);rw[hh2] at hcc;clear hG hl hh hh2
  go_wp2_with (first
   | (go_at_call 162;(with_reducible refine hca.mono ?_);rintro e w2 ⟨rfl,hb2⟩;have H2:=qAq (HD.out.on hb2);obtain⟨x0,x1,x2⟩:=H2.out.cells;obtain⟨x3,_,x4,_,_⟩:=H2.out.tb.cells;clear hb2 hca)
   | (go_at_call 161;(with_reducible refine (hcb H2.out).mono ?_);rintro e w3 ⟨rfl,hb3⟩;have H3:=qAq (H2.out.on hb3);obtain⟨q0,q1,q2⟩:=H3.out.cells;obtain⟨q3,_,q4,_,_⟩:=H3.out.tb.cells;clear hb3 hcb)
   | (go_at_call 163;(with_reducible refine (hcc H3.out).mono ?_);rintro e w4 ⟨rfl,rfl⟩))
  go_ret;exact⟨aH (bG j hjl HG.out).symm,hB2.out▸H3.out.tb.below⟩
 go_wp2_with fail;go_ret;exact⟨aH (bY (fun i hi=>HI.out.1 i (by have:=HN.out;omega))).symm,hB2.out▸HI.out.2.below⟩
def fitsB (t:T):Bool:=decide (0<t.cols.length)&&(decide (t.cols.length<=6)&&decide (t.deps.length<=3))
theorem aDf {t:T} {cv dv:Value} {W:World} (h:RdT W cv dv t):Calls Tryz.prog 136 #[.agg #[.string t.nm,cv,.string t.key,dv]] W fun e w'=>e=.returned (.bool (fitsB t))/\Below W.heap.size W w':=by
 obtain⟨pc,cc,rfl,_,_⟩:=h.1.slice;obtain⟨p,cap,rfl,hc,hm⟩:=h.2.slice;clear h hc hm;obtain⟨r,hr⟩:∃ r,fitsB t=r:=⟨_,rfl⟩;rw[hr];unfold fitsB at hr;generalize t.cols.length=m at *;generalize t.deps.length=n at *;have HR:=qAq hr;clear hr;by_cases h1:0<m
 ·by_cases h2:m<=6
  ·by_cases h3:n<=3
   ·go_enter Tryz.func136,Tryz.ntmps136;go_wp2_with fail;go_ret;exact⟨aH (by rw[<- HR.out];simp[h1,h2,h3];omega),aD W _⟩
   go_enter Tryz.func136,Tryz.ntmps136;go_wp2_with fail;go_ret;exact⟨aH (by rw[<- HR.out];simp[h1,h2,h3];omega),aD W _⟩
  go_enter Tryz.func136,Tryz.ntmps136;go_wp2_with fail;go_ret;exact⟨aH (by rw[<- HR.out];simp[h1,h2]),aD W _⟩
 go_enter Tryz.func136,Tryz.ntmps136;go_wp2_with fail;go_ret;exact⟨aH (by rw[<- HR.out];simp[h1]),aD W _⟩
