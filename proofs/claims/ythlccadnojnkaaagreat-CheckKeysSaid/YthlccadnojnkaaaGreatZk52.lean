import Derived.Test.YthlccadnojnkaaaGreatZk49
namespace Go.Proofs.YthlccadnojnkaaaGreat
open Go Go.RowKit Go.Proofs Co Co.S
def kyV (v:Int):List T3:=[(1,v,e0),(0,0,e0)]
def kyO (v:Int):OpX:=pO sLand (kyV v)
def kyR (vs:List Int):List R1:=vs.zipIdx.map fun p=>((p.2:Int),kyV p.1)
theorem aEb (us:List Int) (v:Int):kyR (us++[v])=kyR us++[((us.length:Int),kyV v)]:=by
 unfold kyR;rw[List.zipIdx_append,List.map_append]
 simp
theorem rU (vs:List Int):(kyR vs).length=vs.length:=by unfold kyR;rw[List.length_map,List.length_zipIdx]
theorem aHu (v:Int):insE (pre 4)[0] (kyV v)=0:=by kernel_rfl
def kyL (vs:List Int):List PT:=[(vs.length,kyR vs),(0,[]),(0,[]),(0,[])]
theorem aFN (us:List Int) (v:Int):fill1 (pre 4) (kyL us) (kyO v)=kyL (us++[v]):=by
 rw[dX (j:=0) (by kernel_rfl) (by decide) (by show 0<4;decide)]
 have h:(kyL us).set 0 (insP (pre 4)[0] (us.length,kyR us) (kyV v))=kyL (us++[v]):=by
  unfold insP;rw[if_pos (aHu v)];unfold kyL;rw[aEb,List.length_append];rfl
 exact h
theorem aAv:∀ (vs us:List Int),(vs.map kyO).foldl (fill1 (pre 4)) (kyL us)=kyL (us++vs)
 | [],us=>by rw[List.append_nil];rfl
 | v::vs,us=>by rw[List.map_cons,List.foldl_cons,aFN,aAv vs,List.append_assoc];rfl
theorem uW (vs:List Int):fillP (pre 4) Lz (vs.map kyO)=kyL vs:=aAv vs []
def dupB (vs:List Int) (k:Nat):Bool:=(vs.take k).any fun u=>decide (vs.getD k 0=u)
theorem aFO (v u:Int):likeP (pre 4)[0] sId (kyV v) (kyV u)=decide (v=u):=by
 have h:likeP (pre 4)[0] sId (kyV v) (kyV u)=decide (((1:Int),v,e0)=((1:Int),u,e0)):=rfl;rw[h,decide_eq_decide];constructor
 ·intro e;exact (Prod.mk.inj (Prod.mk.inj e).2).1
 rintro rfl;rfl
theorem aEc (v:Int) (us:List Int):keyB (pre 4)[0] (kyV v) (us.map kyV)=us.any fun u=>decide (v=u):=by
 have h:keyB (pre 4)[0] (kyV v) (us.map kyV)=(true&&(us.map kyV).any fun a=>likeP (pre 4)[0] sId (kyV v) a):=rfl;rw[h,Bool.true_and,List.any_map]
 congr 1
 funext u
 exact aFO v u
theorem aFP (v:Int):firstK (nullB (pre 4)[0] (kyV v)) (pre 4)[0].cols.length=none:=by kernel_rfl
theorem aHv (v:Int) (As:List (List R1)):firstK (refB (pre 4) As (pre 4)[0] (kyV v)) (pre 4)[0].cols.length=none:=by kernel_rfl
theorem aAw (v:Int) (As:List (List R1)) (B:List (List T3)):rowF (pre 4) As (pre 4)[0] (kyV v) B=if keyB (pre 4)[0] (kyV v) B=true then (8,sId) else (0,e0):=by
 unfold rowF;rw[aFP v,aHv v As];rfl
theorem aAx (vs:List Int) (k:Nat):lessR (kyR vs) k=(vs.take k).map kyV:=by
 unfold lessR kyR;rw[<- List.map_take,List.map_map]
 have h:(vs.take k)=(vs.zipIdx.take k).map (·.1):=by
  rw[List.map_take,List.zipIdx_map_fst]
 rw[h,List.map_map];rfl
theorem aEd {vs:List Int} {k:Nat} (hk:k<(kyR vs).length):(kyR vs)[k]=((k:Int),kyV (vs.getD k 0)):=by
 have hk':k<vs.length:=by rw[rU] at hk;exact hk
 have h:(kyR vs)[k]?=some ((k:Int),kyV (vs.getD k 0)):=by
  unfold kyR;rw[List.getElem?_map,List.getElem?_zipIdx,List.getD_eq_getElem?_getD,List.getElem?_eq_getElem hk']
  simp
 rw[List.getElem?_eq_getElem hk] at h;exact Option.some.inj h
theorem aEe {vs:List Int} {k:Nat} (hk:k<vs.length) (As:List (List R1)):badRow (pre 4) As (pre 4)[0] (kyR vs) k=dupB vs k:=by
 have hk':k<(kyR vs).length:=(by rw[rU];exact hk);unfold badRow rowAt;rw[List.getD_eq_getElem?_getD,List.getElem?_eq_getElem hk',Option.getD_some,aEd hk',aAw,aAx,aEc];unfold dupB;cases (vs.take k).any fun u=>decide (vs.getD k 0=u) <;> rfl
def kyF (vs:List Int):Int×ByteArray×Int×ByteArray :=
 match firstK (dupB vs) vs.length with
 | some k=>(8,sLand,(k:Int),sId)
 | none=>(0,e0,0,e0)
theorem aFQ {vs:List Int} (hv:vs.length<=30):tabAt (pre 4) ((kyL vs).map (·.2)) 0=match firstK (dupB vs) vs.length with
 | some k=>(8,(k:Int),sId)
 | none=>(0,0,e0):=by
 have h:tabAt (pre 4) ((kyL vs).map (·.2)) 0=tabF (pre 4) ((kyL vs).map (·.2)) (pre 4)[0] (kyR vs):=rfl;rw[h];unfold tabF;have hl:=rU vs;rw[eU (by omega) (fun m _=>by have:=jM (A:=kyR vs) (c:=m);omega),if_pos rfl];cases hf:firstK (dupB vs) vs.length with
 | none =>
  exact cU (fun m hm=>by
   rw[aEe (by omega)];unfold firstK at hf;rw[List.find?_eq_none] at hf;simpa using hf m (List.mem_range.2 (by omega)))
 | some k =>
  obtain⟨h1,h2,h3⟩:=dZ hf;have hk:k<(kyR vs).length:=(by omega);have e:=aAw (vs.getD k 0) ((kyL vs).map (·.2)) (lessR (kyR vs) k);have hkey:keyB (pre 4)[0] (kyV (vs.getD k 0)) (lessR (kyR vs) k)=true:=(by rw[aAx,aEc];exact h2);rw[if_pos hkey] at e;have hw:=fR (ts:=pre 4) (As:=(kyL vs).map (·.2)) (t:=(pre 4)[0]) hk (by rw[aEd hk,e];decide) (fun m hm=>by rw[aEe (by omega)];exact h3 m hm);rw[hw,aEd hk,e]
theorem aEf {vs:List Int} (hv:vs.length<=30):checkF (pre 4) ((kyL vs).map (·.2))=kyF vs:=by
 have h0:=aFQ hv;unfold kyF;cases hf:firstK (dupB vs) vs.length with
 | none =>
  rw[hf] at h0;refine cX (fun i hi=>?_)
  match i,hi with
  | 0,_=>rw[h0]
  | 1,_=>rfl
  | 2,_=>rfl
  | 3,_=>rfl
 | some k =>
  rw[hf] at h0;rw[cW (j:=0) (by decide) (by rw[h0];show (8:Int)≠0;decide) (fun i hi=>absurd hi (Nat.not_lt_zero i)),h0];rfl
