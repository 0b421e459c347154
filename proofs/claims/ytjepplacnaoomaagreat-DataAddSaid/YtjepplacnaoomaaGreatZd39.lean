import Derived.Test.YtjepplacnaoomaaGreatZd38
namespace Go.Proofs.YtjepplacnaoomaaGreat
open Go Go.RowKit Go.Proofs
variable {mv : Value}
def colsAt (ts : List T) (tb : ByteArray) : List C:=(orT (findT ts tb)).cols
def pcol (ts : List T) : ByteArray→List ByteArray→C×ByteArray×Int
 | _,[]=>(zeroC,e0,3)
 | tb,x :: r=>if hasC (colsAt ts tb) x=true then (if r.isEmpty=true then (orC (colOf (colsAt ts tb) x),tb,0) else if eqS (orC (colOf (colsAt ts tb) x)).tgt e0=true then (zeroC,e0,9) else pcol ts (orC (colOf (colsAt ts tb) x)).tgt r) else (zeroC,e0,3)
def pcolL (ts : List T) (tb : ByteArray) (p : List ByteArray) : C×ByteArray×Int:=if p.length<1∨4<p.length then (zeroC,e0,5) else pcol ts tb p
theorem pcol_at (ts : List T) (tb : ByteArray) (p : List ByteArray) {j : Nat} (hj : j<p.length) : pcol ts tb (p.drop j)=if hasC (colsAt ts tb) p[j]=true then (if j+1=p.length then (orC (colOf (colsAt ts tb) p[j]),tb,0) else if eqS (orC (colOf (colsAt ts tb) p[j])).tgt e0=true then (zeroC,e0,9) else pcol ts (orC (colOf (colsAt ts tb) p[j])).tgt (p.drop (j+1))) else (zeroC,e0,3):=by
 rw [List.drop_eq_getElem_cons hj]
 rw [pcol]
 by_cases h : j+1=p.length
 ·have e : (p.drop (j+1)).isEmpty=true:=by rw [List.drop_of_length_le (by omega)]; rfl
  rw [if_pos h,if_pos e]
 ·have e : ¬ (p.drop (j+1)).isEmpty=true:=by
   rw [List.isEmpty_iff]
   intro e
   have:=congrArg List.length e
   simp only [List.length_drop,List.length_nil] at this
   omega
  rw [if_neg h,if_neg e]
structure Nice (ts : List T) : Prop where
 nm : ∀ t∈ts,named t.nm=true
 col : ∀ t∈ts,(t.cols.map C.nm).Nodup
 tgt : ∀ t∈ts,∀ c∈t.cols,c.tgt=e0∨∃ u,findT ts c.tgt=some u
 few : ∀ t∈ts,t.cols.length≤6
def Kp9 (W W' : World) : Prop:=∀ (b : Nat) (cur : Array Value) (m : Nat×Nat),W.heap[b]?=some (Obj.cells cur 9 m)→W'.heap[b]?=some (Obj.cells cur 9 m)
theorem Kp9.below {W W' : World} (h : Below W.heap.size W W') : Kp9 W W':=fun b _ _ x=>(h.block b (lt_of_heap x)).trans x
section
variable {W W' : World} {v : Value} {l : List ByteArray}
theorem Wd.kp (h : Wd W v l) (hk : Kp9 W W') : Wd W' v l:=by
 obtain ⟨p,cap,h1,h2,h3,h4,h5⟩:=h
 refine ⟨p,cap,h1,h2,h3,h4,fun hn=>?_⟩
 obtain ⟨b,off,cur,m,a1,a2,a3⟩:=h5 hn
 exact ⟨b,off,cur,m,a1,hk _ _ _ a2,a3⟩
theorem Wd.later (h : Wd W v l) (hb : Below W.heap.size W W') : Wd W' v l:=h.kp (.below hb)
theorem Wd.slice (h : Wd W v l) : ∃ p cap,v=.slice p l.length cap∧l.length≤cap∧cap≤maxLen:=by
 obtain ⟨p,cap,h1,h2,h3,_⟩:=h
 exact ⟨p,cap,h1,h2,h3⟩
theorem Wd.word {p : Option Addr} {n cap : Nat} (h : Wd W (.slice p n cap) l) {i : Nat} (hi : i<l.length) : ∃ b off,p=some ⟨b,off,none⟩∧b<W.heap.size∧W.cell? ⟨b,off+i,none⟩=some (.string l[i]):=by
 obtain ⟨p',cap',h1,h2,h3,h4,h5⟩:=h
 obtain ⟨rfl,-,rfl⟩:=Value.slice.inj h1
 obtain ⟨b,off,cur,m,a1,a2,a3⟩:=h5 (by omega)
 exact ⟨b,off,a1,lt_of_heap a2,by simp only [World.cell?,a2]; exact a3 i hi⟩
end
def KS (W w : World) : Prop:=Below W.heap.size W w∧w.heap[W.heap.size]?=some (.cells #[.string e0,.int .i64 0,.bool false,.string e0] 116)
theorem KS.start (W : World) : KS W (W.alloc (.cells #[.string e0,.int .i64 0,.bool false,.string e0] 116)):=⟨below_alloc W _,heap_alloc_new W _⟩
theorem KS.on {W w w' : World} (h : KS W w) (hb : Below w.heap.size w w') : KS W w':=⟨below_on h.1 hb,heap_on hb h.2⟩
set_option maxRecDepth 100000 in
set_option maxHeartbeats 4000000 in
theorem pathCol_any {ts : List T} {pv v : Value} {tb : ByteArray} {p : List ByteArray} {W : World} (h : SchP mv W pv ts) (hp : Wd W v p) : Calls Tryz.prog 62 #[pv,.string tb,v] W fun e w'=>e=.returned (.tuple #[colVQ (pcolL ts tb p).1,.string (pcolL ts tb p).2.1,.int .i64 (pcolL ts tb p).2.2])∧Below W.heap.size W w':=by
 obtain ⟨q,cap,rfl,hc,hm⟩:=hp.slice
 obtain ⟨n,hn⟩ : ∃ n,p.length=n:=⟨_,rfl⟩
 obtain ⟨S,hS⟩ : ∃ S,W.heap.size=S:=⟨_,rfl⟩
 unfold maxLen at hm
 rw [hn] at hc hp ⊢
 have HP:=Lib.hid (And.intro h hp)
 have HN:=Lib.hid hn
 have HS:=Lib.hid hS
 have K0:=KS.start W
 obtain ⟨w0,hw0⟩ : ∃ w0,W.alloc (.cells #[.string e0,.int .i64 0,.bool false,.string e0] 116)=w0:=⟨_,rfl⟩
 have HW:=Lib.hid hw0
 rw [hw0] at K0
 obtain ⟨r,hr⟩ : ∃ r,pcolL ts tb p=r:=⟨_,rfl⟩
 rw [hr]
 have FIN : Hid (∀ (w wz : World) (a b c d : Value),KS W w→(((w.setCell ⟨S,0,none⟩ a).setCell ⟨S,1,none⟩ b).setCell ⟨S,2,none⟩ c).setCell ⟨S,3,none⟩ d=wz →
   wz.cell? ⟨S,0,none⟩=some a∧wz.cell? ⟨S,1,none⟩=some b∧wz.cell? ⟨S,2,none⟩=some c∧wz.cell? ⟨S,3,none⟩=some d∧Below W.heap.size W wz):=Lib.hid (fun w wz a b c d hk e=>by
  subst e
  have hz:=hk.2
  rw [hS] at hz
  have h4:=set4 hz a b c d
  exact ⟨nd_cell h4 0,nd_cell h4 1,nd_cell h4 2,nd_cell h4 3,below_set4 hk.1 (Nat.le_of_eq hS) _ _ _ _⟩)
 have CELLS : Hid (∀ w,KS W w→S<w.heap.size∧w.cell? ⟨S,0,none⟩=some (.string e0)∧w.cell? ⟨S,1,none⟩=some (.int .i64 0)∧w.cell? ⟨S,2,none⟩=some (.bool false)∧w.cell? ⟨S,3,none⟩=some (.string e0)∧∀ i,w.frozen? ⟨S,i,none⟩=false):=Lib.hid (fun w hk=>by
  have hz:=hk.2
  rw [hS] at hz
  exact ⟨lt_of_heap hz,nd_cell hz 0,nd_cell hz 1,nd_cell hz 2,nd_cell hz 3,fun i=>frozen_of_row w S i _ _ hz⟩)
 have HK:=Lib.hid K0
 have HR:=Lib.hid hr
 clear h hp hw0 hS K0 hr hn
 go_enter Tryz.func62,Tryz.ntmps62
 go_upto_region 1 with fail
 rw [HW.out,HS.out]
 by_cases h0 : n=0
 ·subst h0
  obtain ⟨zl,z0,z1,z2,z3,zf⟩:=CELLS.out _ HK.out
  have e : r=(zeroC,e0,5):=by rw [← HR.out]; unfold pcolL; rw [if_pos (by rw [HN.out]; omega)]
  subst e
  go_wp2_with fail
  generalize hwz : (((World.setCell _ _ _).setCell _ _).setCell _ _).setCell _ _=wz
  obtain ⟨y0,y1,y2,y3,hB⟩:=FIN.out _ _ _ _ _ _ HK.out hwz
  refine bodyPost_ret (v:=.tuple #[colVQ zeroC,_,_]) (by simp [results,Tryz.results62,go_sem,y0,y1,y2,y3,colVQ,zeroC]; first | rfl | exact ⟨rfl,rfl⟩) rfl ?_
  exact ⟨rfl,hB⟩
 ·by_cases h4 : 4<n
  ·obtain ⟨zl,z0,z1,z2,z3,zf⟩:=CELLS.out _ HK.out
   have e : r=(zeroC,e0,5):=by rw [← HR.out]; unfold pcolL; rw [if_pos (by rw [HN.out]; omega)]
   subst e
   go_wp2_with fail
   generalize hwz : (((World.setCell _ _ _).setCell _ _).setCell _ _).setCell _ _=wz
   obtain ⟨y0,y1,y2,y3,hB⟩:=FIN.out _ _ _ _ _ _ HK.out hwz
   refine bodyPost_ret (v:=.tuple #[colVQ zeroC,_,_]) (by simp [results,Tryz.results62,go_sem,y0,y1,y2,y3,colVQ,zeroC]; first | rfl | exact ⟨rfl,rfl⟩) rfl ?_
   exact ⟨rfl,hB⟩
  ·have HR0 : Hid (pcol ts tb (p.drop 0)=r):=Lib.hid (by
    rw [← HR.out]
    unfold pcolL
    rw [if_neg (by rw [HN.out]; omega)]; rfl)
   clear HR
   obtain ⟨k,hk⟩ : ∃ k,n=k+1:=⟨n - 1,by omega⟩
   subst hk
   have hb1 : (((k : Int)+1) == 0)=false:=by rw [beq_eq_false_iff_ne]; omega
   have hb2 : decide (4<((k : Int)+1))=false:=decide_eq_false (by omega)
   go_upto_region 5 with fail
   go_loopg [1,32] (k+1) (fun gh tv jv w=>∃ (j : Nat) (t : ByteArray),jv=.int .i64 (j : Int)∧tv=.string t∧j≤k∧k+1≤j+gh∧pcol ts t (p.drop j)=r∧KS W w)
   case atStart=>exact ⟨0,tb,rfl,rfl,Nat.zero_le _,by omega,HR0.out,HK.out⟩
   case round =>
    obtain ⟨j,t,rfl,rfl,hj,hg,hr,hk⟩:=hrel
    clear HR0
    have hjl : j<p.length:=by rw [HN.out]; omega
    have HK1:=Lib.hid hk
    obtain ⟨b1,o1,rfl,hb1',c1⟩:=(HP.out.2.later hk.1).word hjl
    rw [pcol_at ts t p hjl] at hr
    obtain ⟨x,hx⟩ : ∃ x,p[j]=x:=⟨_,rfl⟩
    rw [hx] at c1 hr
    obtain ⟨ok,hok⟩ : ∃ ok,hasC (colsAt ts t) x=ok:=⟨_,rfl⟩
    obtain ⟨c,hc'⟩ : ∃ c,orC (colOf (colsAt ts t) x)=c:=⟨_,rfl⟩
    obtain ⟨nm,kd,mu,tg⟩:=c
    have hcall:=col_is (HP.out.1.later hk.1) hc' hok
    rw [hok,hc',HN.out] at hr
    have HX:=Lib.hid hx
    have hcell:=c1
    clear hx hok hc' hk c1
    by_cases hlt : j<k
    ·rw [if_neg (show ¬ j+1=k+1 by omega)] at hr
     cases ok
     ·rw [if_neg (by decide)] at hr
      subst hr
      go_upto_region 8 with (go_at_call 63; (with_reducible refine hcall.mono ?_); rintro e w1 ⟨rfl,hb⟩)
      have hx5:=heap_alloc_new w1 (.cells #[.string nm,.int .i64 kd,.bool mu,.string tg] 116)
      have hb6:=below_alloc w1 (.cells #[.string nm,.int .i64 kd,.bool mu,.string tg] 116)
      have HK2:=Lib.hid ((HK1.out.on hb).on hb6)
      obtain ⟨B,hBB⟩ : ∃ x,w1.heap.size=x:=⟨_,rfl⟩
      obtain ⟨w2,hw2⟩ : ∃ x,w1.alloc (.cells #[.string nm,.int .i64 kd,.bool mu,.string tg] 116)=x:=⟨_,rfl⟩
      rw [hBB,hw2] at hx5
      rw [hw2] at HK2
      rw [hBB,hw2]
      obtain ⟨zl,z0,z1,z2,z3,zf⟩:=CELLS.out _ HK2.out
      have u0:=nd_cell hx5 0
      have u1:=nd_cell hx5 1
      have u2:=nd_cell hx5 2
      have u3:=nd_cell hx5 3
      have ul:=lt_of_heap hx5
      clear hx5 hb6 hBB hw2 hb hcall hcell
      go_wp2_with fail
      generalize hwz : (((World.setCell _ _ _).setCell _ _).setCell _ _).setCell _ _=wz
      obtain ⟨y0,y1,y2,y3,hB⟩:=FIN.out _ _ _ _ _ _ HK2.out hwz
      refine bodyPost_ret (v:=.tuple #[colVQ zeroC,_,_]) (by simp [results,Tryz.results62,go_sem,y0,y1,y2,y3,colVQ,zeroC]; first | rfl | exact ⟨rfl,rfl⟩) rfl ?_
      exact ⟨rfl,hB⟩
     ·rw [if_pos rfl] at hr
      cases he : eqS tg e0
      ·rw [he,if_neg (by decide)] at hr
       have HR:=Lib.hid hr
       have hx2 : tg.toList.isEmpty=false:=by rw [eqS_e0]; exact he
       clear hr he
       go_upto_region 8 with (go_at_call 63; (with_reducible refine hcall.mono ?_); rintro e w1 ⟨rfl,hb⟩)
       have hx5:=heap_alloc_new w1 (.cells #[.string nm,.int .i64 kd,.bool mu,.string tg] 116)
       have hb6:=below_alloc w1 (.cells #[.string nm,.int .i64 kd,.bool mu,.string tg] 116)
       have HK2:=Lib.hid ((HK1.out.on hb).on hb6)
       obtain ⟨B,hBB⟩ : ∃ x,w1.heap.size=x:=⟨_,rfl⟩
       obtain ⟨w2,hw2⟩ : ∃ x,w1.alloc (.cells #[.string nm,.int .i64 kd,.bool mu,.string tg] 116)=x:=⟨_,rfl⟩
       rw [hBB,hw2] at hx5
       rw [hw2] at HK2
       rw [hBB,hw2]
       obtain ⟨zl,z0,z1,z2,z3,zf⟩:=CELLS.out _ HK2.out
       have u0:=nd_cell hx5 0
       have u1:=nd_cell hx5 1
       have u2:=nd_cell hx5 2
       have u3:=nd_cell hx5 3
       have ul:=lt_of_heap hx5
       clear hx5 hb6 hBB hw2 hb hcall hcell
       go_wp2_with fail
       go_roundg (k - j)
       case measure=>omega
       case rel=>exact ⟨j+1,tg,by go_num,rfl,by omega,by omega,HR.out,HK2.out⟩
      ·rw [he,if_pos rfl] at hr
       subst hr
       have hx2 : tg.toList.isEmpty=true:=by rw [eqS_e0]; exact he
       clear he
       go_upto_region 8 with (go_at_call 63; (with_reducible refine hcall.mono ?_); rintro e w1 ⟨rfl,hb⟩)
       have hx5:=heap_alloc_new w1 (.cells #[.string nm,.int .i64 kd,.bool mu,.string tg] 116)
       have hb6:=below_alloc w1 (.cells #[.string nm,.int .i64 kd,.bool mu,.string tg] 116)
       have HK2:=Lib.hid ((HK1.out.on hb).on hb6)
       obtain ⟨B,hBB⟩ : ∃ x,w1.heap.size=x:=⟨_,rfl⟩
       obtain ⟨w2,hw2⟩ : ∃ x,w1.alloc (.cells #[.string nm,.int .i64 kd,.bool mu,.string tg] 116)=x:=⟨_,rfl⟩
       rw [hBB,hw2] at hx5
       rw [hw2] at HK2
       rw [hBB,hw2]
       obtain ⟨zl,z0,z1,z2,z3,zf⟩:=CELLS.out _ HK2.out
       have u0:=nd_cell hx5 0
       have u1:=nd_cell hx5 1
       have u2:=nd_cell hx5 2
       have u3:=nd_cell hx5 3
       have ul:=lt_of_heap hx5
       clear hx5 hb6 hBB hw2 hb hcall hcell
       go_wp2_with fail
       generalize hwz : (((World.setCell _ _ _).setCell _ _).setCell _ _).setCell _ _=wz
       obtain ⟨y0,y1,y2,y3,hB⟩:=FIN.out _ _ _ _ _ _ HK2.out hwz
       refine bodyPost_ret (v:=.tuple #[colVQ zeroC,_,_]) (by simp [results,Tryz.results62,go_sem,y0,y1,y2,y3,colVQ,zeroC]; first | rfl | exact ⟨rfl,rfl⟩) rfl ?_
       exact ⟨rfl,hB⟩
    ·obtain rfl : j=k:=by omega
     rw [if_pos rfl] at hr
     cases ok
     ·rw [if_neg (by decide)] at hr
      subst hr
      go_upto_region 15 with (go_at_call 63; (with_reducible refine hcall.mono ?_); rintro e w1 ⟨rfl,hb⟩)
      have hx5:=heap_alloc_new w1 (.cells #[.string nm,.int .i64 kd,.bool mu,.string tg] 116)
      have hb6:=below_alloc w1 (.cells #[.string nm,.int .i64 kd,.bool mu,.string tg] 116)
      have HK2:=Lib.hid ((HK1.out.on hb).on hb6)
      obtain ⟨B,hBB⟩ : ∃ x,w1.heap.size=x:=⟨_,rfl⟩
      obtain ⟨w2,hw2⟩ : ∃ x,w1.alloc (.cells #[.string nm,.int .i64 kd,.bool mu,.string tg] 116)=x:=⟨_,rfl⟩
      rw [hBB,hw2] at hx5
      rw [hw2] at HK2
      rw [hBB,hw2]
      obtain ⟨zl,z0,z1,z2,z3,zf⟩:=CELLS.out _ HK2.out
      have u0:=nd_cell hx5 0
      have u1:=nd_cell hx5 1
      have u2:=nd_cell hx5 2
      have u3:=nd_cell hx5 3
      have ul:=lt_of_heap hx5
      clear hx5 hb6 hBB hw2 hb hcall hcell
      go_wp2_with fail
      generalize hwz : (((World.setCell _ _ _).setCell _ _).setCell _ _).setCell _ _=wz
      obtain ⟨y0,y1,y2,y3,hB⟩:=FIN.out _ _ _ _ _ _ HK2.out hwz
      refine bodyPost_ret (v:=.tuple #[colVQ zeroC,_,_]) (by simp [results,Tryz.results62,go_sem,y0,y1,y2,y3,colVQ,zeroC]; first | rfl | exact ⟨rfl,rfl⟩) rfl ?_
      exact ⟨rfl,hB⟩
     ·rw [if_pos rfl] at hr
      subst hr
      go_upto_region 15 with (go_at_call 63; (with_reducible refine hcall.mono ?_); rintro e w1 ⟨rfl,hb⟩)
      have hx5:=heap_alloc_new w1 (.cells #[.string nm,.int .i64 kd,.bool mu,.string tg] 116)
      have hb6:=below_alloc w1 (.cells #[.string nm,.int .i64 kd,.bool mu,.string tg] 116)
      have HK2:=Lib.hid ((HK1.out.on hb).on hb6)
      obtain ⟨B,hBB⟩ : ∃ x,w1.heap.size=x:=⟨_,rfl⟩
      obtain ⟨w2,hw2⟩ : ∃ x,w1.alloc (.cells #[.string nm,.int .i64 kd,.bool mu,.string tg] 116)=x:=⟨_,rfl⟩
      rw [hBB,hw2] at hx5
      rw [hw2] at HK2
      rw [hBB,hw2]
      obtain ⟨zl,z0,z1,z2,z3,zf⟩:=CELLS.out _ HK2.out
      have u0:=nd_cell hx5 0
      have u1:=nd_cell hx5 1
      have u2:=nd_cell hx5 2
      have u3:=nd_cell hx5 3
      have ul:=lt_of_heap hx5
      clear hx5 hb6 hBB hw2 hb hcall hcell
      go_wp2_with fail
      generalize hwz : (((World.setCell _ _ _).setCell _ _).setCell _ _).setCell _ _=wz
      obtain ⟨y0,y1,y2,y3,hB⟩:=FIN.out _ _ _ _ _ _ HK2.out hwz
      refine bodyPost_ret (v:=.tuple #[colVQ ⟨nm,kd,mu,tg⟩,_,_]) (by simp [results,Tryz.results62,go_sem,y0,y1,y2,y3,colVQ]; first | rfl | exact ⟨rfl,rfl⟩) rfl ?_
      exact ⟨rfl,hB⟩
end Go.Proofs.YtjepplacnaoomaaGreat
