import Derived.Deep.Cut
import Derived.Test.YteampbddflhngaaGreatZ10
namespace Go.Proofs.YteampbddflhngaaGreat
set_option linter.all false
set_option maxRecDepth 100000
set_option maxHeartbeats 2000000
open Go.Proofs.Tryz Go.RowKit
section
variable {lo:Nat}
def LX(o:Option zd)(w:World)(e:Ending)(w':World):Prop:=
 μ w w'/\match o with
  |none=>∃b p j n d f i a,e=ε (.tuple #[.agg #[.bool b,.string p,.slice j n d,.slice f i a],.bool false])
  |some c=>∃g h,e=ε (.tuple #[.agg #[.bool c.head.neg,.string c.head.pred,g,h],.bool true])/\QF w.heap.size w' g c.head.args/\Rg w.heap.size w' h c.body
theorem KH(w:World)(v:Value)(l:κ)(d:SV w v l)(a:∀y∈l,0<y.size)(f:l.length<=500)(h:yG l (l.length+1) 0 0 0=none):
  Calls prog 153 #[v] w fun e c=>e=ε (.tuple #[ν,.bool false])/\μ w c:=by
 refine(EB w v l d a f).mono ?_;rintro e c ⟨g,b⟩;rw[h] at b;exact⟨b,g⟩
theorem FF(w:World)(v:Value)(l:κ)(g:List zj)(j:SV w v l)(d:∀y∈l,0<y.size)(k:l.length<=500)(h:yG l (l.length+1) 0 0 0=some g):
  Calls prog 153 #[v] w fun e f=>∃c,e=ε (.tuple #[c,.bool true])/\Rg w.heap.size f c g/\μ w f:=by
 refine(EB w v l j d k).mono ?_;rintro e f ⟨m,i⟩;rw[h] at i;obtain⟨c,a,b⟩:=i;exact⟨c,a,b,m⟩
theorem Cq(w:World)(v:Value)(l:κ)(S:SV w v l)(U:∀y∈l,0<y.size)(hl:l.length<=500):
  Calls prog 107 #[v] w fun e w'=>LX (jK l) w e w':=by
 obtain⟨i1,L,_,_,_⟩:=info_parts Q0;obtain⟨ao,a3,rfl⟩:=S.qx;have hW:μ w ((w.alloc (.cells #[.bool false,.string {data:=#[]},ν,ν] 93)).alloc (.cells #[.bool false,.string {data:=#[]},ν,ν] 93)):=(by go_grown);have ap:Q8 ((w.alloc (.cells #[.bool false,.string {data:=#[]},ν,ν] 93)).alloc (.cells #[.bool false,.string {data:=#[]},ν,ν] 93)) w.heap.size #[.bool false,.string {data:=#[]},ν,ν] 93:=(Q8.new w _ _).below zT;have ah:Q8 ((w.alloc (.cells #[.bool false,.string {data:=#[]},ν,ν] 93)).alloc (.cells #[.bool false,.string {data:=#[]},ν,ν] 93)) (w.heap.size+1) #[.bool false,.string {data:=#[]},ν,ν] 93:=Q8.newAt _ _ _ _ (by simp);go_enter func107,ntmps107;go_wp2;go_loop [5] (fun i=>∃k:Nat,k<=l.length/\i=ι k/\Hid (xC l=k+xC (l.drop k))) (fun i=>l.length-(intOf i).toNat)
 case atStart=>exact⟨0,zv _,rfl,by simp[Hid]⟩
 case round=>
  obtain⟨k,hk,rfl,H⟩:=hrel;by_cases M:k<l.length
  case' pos=>
   obtain⟨b,o,rfl,a2,az⟩:=S.cell k M;rw[xv M] at az;cases hI:((gB l k).toList == [58,45])
   ·have H2:Hid (xC l=(k+1)+xC (l.drop (k+1))):=by rw[Hid,H.out,IE M hI];omega
    clear H;generalize gB l k=x at *;go_wp2;go_round
    ·exact⟨k+1,by omega,by go_num,H2⟩
    ·simp[intOf];omega
   have X:Hid (xC l=k):=by rw[Hid,H.out,GT M hI];rfl
   generalize gB l k=x at *
  case' neg=>
   have X:Hid (xC l=k):=by rw[Hid,H.out,uj (by omega)];rfl
  all_goals
   clear H;have ae:Hid (∀y∈l.take k,0<y.size):=fun y hy=>U y (fV hy);cases hL:jB (l.take k) true
   ·have T:=Q7 hL;have Q:Hid (jK l=none):=by unfold Hid jK;rw[X.out,hL]
    clear hL;go_upto_region 7 with (first|(refine qW _ w rfl (.tmp 24) 30 9 none (some (.tmp 25)) rfl underlying30 i1 L PW _ l rfl S 0 k (zf ⟨rfl,rfl⟩) (zb rfl) (by omega) (by omega) k rfl ?_;intro ax Y B;rw[gR] at B)|(go_at_call 152;refine(o7 _ _ (l.take k) true (by exact B.below hW) ae.out (by simp;omega) T).mono ?_;rintro e J ⟨G,I,d,K,c,rfl,n⟩;have f:=ap.below n;have h:=ah.below n;obtain⟨u,s⟩:=f.rules;obtain⟨D,F,aw⟩:=h.boxed;have ac:=f.lt;have P:=QB hW n))
    have E:Q8 ((((J.setCell ⟨w.heap.size+1,0,none⟩ (.bool G)).setCell ⟨w.heap.size+1,1,none⟩ (.string I)).setCell ⟨w.heap.size+1,2,none⟩ (.slice d K c)).alloc (.cells #[.bool G,.string I,.slice d K c] 90)) (w.heap.size+1) #[.bool G,.string I,.slice d K c,ν] 93:=(((h.set 0 _).set 1 _).set 2 _).below zT;have g:Q8 ((((J.setCell ⟨w.heap.size+1,0,none⟩ (.bool G)).setCell ⟨w.heap.size+1,1,none⟩ (.string I)).setCell ⟨w.heap.size+1,2,none⟩ (.slice d K c)).alloc (.cells #[.bool G,.string I,.slice d K c] 90)) w.heap.size #[.bool false,.string {data:=#[]},ν,ν] 93:=(((f.set_ne (by omega) _ _).set_ne (by omega) _ _).set_ne (by omega) _ _).below zT;have q:μ w ((((J.setCell ⟨w.heap.size+1,0,none⟩ (.bool G)).setCell ⟨w.heap.size+1,1,none⟩ (.string I)).setCell ⟨w.heap.size+1,2,none⟩ (.slice d K c)).alloc (.cells #[.bool G,.string I,.slice d K c] 90)):=by have hq:=P.size;exact(by go_grown)
    generalize ((((J.setCell ⟨w.heap.size+1,0,none⟩ (.bool G)).setCell ⟨w.heap.size+1,1,none⟩ (.string I)).setCell ⟨w.heap.size+1,2,none⟩ (.slice d K c)).alloc (.cells #[.bool G,.string I,.slice d K c] 90))=w2 at *;clear f h u s D F;obtain⟨A,ak⟩:=g.rules;obtain⟨am,ag,av⟩:=E.boxed;have aq:=g.lt;go_wp2;rw[Q.out];exact zK (v:=.tuple #[.agg #[.bool G,.string I,.slice d K c,ν],.bool false]) (by simp[results,results107,go_sem,A]) rfl ⟨(by go_grown),_,_,_,_,_,_,_,_,rfl⟩
   rename_i a;have T:=Q7 hL;clear hL;go_upto_region 7 with (first|(refine qW _ w rfl (.tmp 24) 30 9 none (some (.tmp 25)) rfl underlying30 i1 L PW _ l rfl S 0 k (zf ⟨rfl,rfl⟩) (zb rfl) (by omega) (by omega) k rfl ?_;intro ax Y B;rw[gR] at B)|(go_at_call 152;refine(oY _ _ (l.take k) true a (by exact B.below hW) ae.out (by simp;omega) T).mono ?_;rintro e J ⟨va,rfl,al,n⟩;obtain⟨d,c,rfl⟩:=al.qx;have f:=ap.below n;have h:=ah.below n;obtain⟨u,s⟩:=f.rules;obtain⟨D,F,aw⟩:=h.boxed;have ac:=f.lt;have P:=QB hW n))
   have E:Q8 ((((J.setCell ⟨w.heap.size+1,0,none⟩ (.bool a.neg)).setCell ⟨w.heap.size+1,1,none⟩ (.string a.pred)).setCell ⟨w.heap.size+1,2,none⟩ (.slice d a.args.length c)).alloc (.cells #[.bool a.neg,.string a.pred,.slice d a.args.length c] 90)) (w.heap.size+1) #[.bool a.neg,.string a.pred,.slice d a.args.length c,ν] 93:=(((h.set 0 _).set 1 _).set 2 _).below zT;have g:Q8 ((((J.setCell ⟨w.heap.size+1,0,none⟩ (.bool a.neg)).setCell ⟨w.heap.size+1,1,none⟩ (.string a.pred)).setCell ⟨w.heap.size+1,2,none⟩ (.slice d a.args.length c)).alloc (.cells #[.bool a.neg,.string a.pred,.slice d a.args.length c] 90)) w.heap.size #[.bool false,.string {data:=#[]},ν,ν] 93:=(((f.set_ne (by omega) _ _).set_ne (by omega) _ _).set_ne (by omega) _ _).below zT;have q:μ w ((((J.setCell ⟨w.heap.size+1,0,none⟩ (.bool a.neg)).setCell ⟨w.heap.size+1,1,none⟩ (.string a.pred)).setCell ⟨w.heap.size+1,2,none⟩ (.slice d a.args.length c)).alloc (.cells #[.bool a.neg,.string a.pred,.slice d a.args.length c] 90)):=by have hq:=P.size;exact(by go_grown)
   have ad:QF w.heap.size ((((J.setCell ⟨w.heap.size+1,0,none⟩ (.bool a.neg)).setCell ⟨w.heap.size+1,1,none⟩ (.string a.pred)).setCell ⟨w.heap.size+1,2,none⟩ (.slice d a.args.length c)).alloc (.cells #[.bool a.neg,.string a.pred,.slice d a.args.length c] 90)) (.slice d a.args.length c) a.args:=((al.low (by simp only[World.size_alloc];omega)).but (r:=w.heap.size+1) ((((QJ.refl _ _).setCell _ _).setCell _ _).setCell _ _) h (by decide)).below zT;generalize ((((J.setCell ⟨w.heap.size+1,0,none⟩ (.bool a.neg)).setCell ⟨w.heap.size+1,1,none⟩ (.string a.pred)).setCell ⟨w.heap.size+1,2,none⟩ (.slice d a.args.length c)).alloc (.cells #[.bool a.neg,.string a.pred,.slice d a.args.length c] 90))=w2 at *;clear f h u s D F;obtain⟨A,ak⟩:=g.rules;obtain⟨am,ag,av⟩:=E.boxed;have aq:=g.lt
  ·have aa:Hid (k=l.length):=by unfold Hid;omega
   have Q:Hid (jK l=some ⟨a,[]⟩):=by unfold Hid jK;rw[X.out,T.out];simp only[];rw[zc aa.out]
   have a0:((k:Int) == (l.length:Int))=true:=by rw[beq_iff_eq];have:=aa.out;omega
   go_wp2;rw[Q.out];exact zK (v:=.tuple #[.agg #[.bool a.neg,.string a.pred,.slice d a.args.length c,ν],.bool true]) (by simp[results,results107,go_sem,A]) rfl ⟨(by go_grown),_,_,rfl,ad.but (r:=w.heap.size) (by repeat'(first|with_reducible(first|apply xR|assumption|apply xN|apply xA|apply xD|apply xS|apply xT)|go_size)) g (by decide),Rg.nil _⟩
  ·have N:Hid (∀y∈l.drop (k+1),0<y.size):=fun y hy=>U y (dQ hy);have a0:((k:Int) == (l.length:Int))=false:=by rw[beq_eq_false_iff_ne];omega
   cases p:yG (l.drop (k+1)) ((l.drop (k+1)).length+1) 0 0 0 with
   |none=>
    have O:=Q7 p;have Q:Hid (jK l=none):=by unfold Hid jK;rw[X.out,T.out];simp only[];rw[za (by omega),p]
    clear p;go_wp2_with (first|(refine qW _ w rfl (.tmp 43) 30 9 (some (.tmp 45)) none rfl underlying30 i1 L PW _ l rfl S (k+1) l.length (zb rfl) (zf ⟨rfl,rfl⟩) (by omega) (by omega) (l.length-(k+1)) rfl ?_;intro ay Z t;rw[xg (by simp)] at t)|(go_at_call 153;refine(KH _ _ (l.drop (k+1)) (by exact t.below q) N.out (by simp;omega) O).mono ?_;rintro e w3 ⟨rfl,j⟩;have m:=g.below j;have z:=E.below j;obtain⟨C,W⟩:=m.rules;obtain⟨V,aj,au⟩:=z.boxed;have an:=m.lt;have R:=QB q j;have ai:=R.size))
    rw[Q.out];exact zK (v:=.tuple #[.agg #[.bool a.neg,.string a.pred,.slice d a.args.length c,ν],.bool false]) (by simp[results,results107,go_sem,C]) rfl ⟨(by go_grown),_,_,_,_,_,_,_,_,rfl⟩
   |some bd=>
    have O:=Q7 p;have Q:Hid (jK l=some ⟨a,bd⟩):=by unfold Hid jK;rw[X.out,T.out];simp only[];rw[za (by omega),p]
    clear p;go_wp2_with (first|(refine qW _ w rfl (.tmp 43) 30 9 (some (.tmp 45)) none rfl underlying30 i1 L PW _ l rfl S (k+1) l.length (zb rfl) (zf ⟨rfl,rfl⟩) (by omega) (by omega) (l.length-(k+1)) rfl ?_;intro ay Z t;rw[xg (by simp)] at t)|(go_at_call 153;refine(FF _ _ (l.drop (k+1)) bd (by exact t.below q) N.out (by simp;omega) O).mono ?_;rintro e w3 ⟨vb,rfl,ab,j⟩;obtain⟨ar,af,rfl⟩:=ab.qx;have m:=g.below j;have z:=E.below j;obtain⟨C,W⟩:=m.rules;obtain⟨V,aj,au⟩:=z.boxed;have an:=m.lt;have R:=QB q j;have ai:=R.size))
    rw[Q.out];have a1:=ad.below j;exact zK (v:=.tuple #[.agg #[.bool a.neg,.string a.pred,.slice d a.args.length c,.slice ar bd.length af],.bool true]) (by simp[results,results107,go_sem,C]) rfl ⟨(by go_grown),_,_,rfl,(a1.but (r:=w.heap.size+1) ((QJ.refl _ _).setCell _ _) z (by decide)).but (r:=w.heap.size) (by repeat'(first|with_reducible(first|apply xR|assumption|apply xN|apply xA|apply xD|apply xS|apply xT)|go_size)) (m.set_ne (by omega) _ _) (by decide),((ab.low (by omega)).but (r:=w.heap.size+1) ((QJ.refl _ _).setCell _ _) z (by decide) (by decide)).but (r:=w.heap.size) (by repeat'(first|with_reducible(first|apply xR|assumption|apply xN|apply xA|apply xD|apply xS|apply xT)|go_size)) (m.set_ne (by omega) _ _) (by decide) (by decide)⟩
end
section
variable {lo:Nat}{o:Option (List zd)}
theorem JP(w:World)(v:Value)(l:κ)(m:SV w v l)(f:∀y∈l,0<y.size)(r:l.length<=500)(h:jK l=none):
  Calls prog 107 #[v] w fun e k=>∃b p i n c d g a,e=ε (.tuple #[.agg #[.bool b,.string p,.slice i n c,.slice d g a],.bool false])/\μ w k:=by
 refine(Cq w v l m f r).mono ?_;rintro e k ⟨q,j⟩;rw[h] at j;obtain⟨b,p,i,n,c,d,g,a,s⟩:=j;exact⟨b,p,i,n,c,d,g,a,s,q⟩
theorem PM(w:World)(v:Value)(l:κ)(c:zd)(k:SV w v l)(i:∀y∈l,0<y.size)(m:l.length<=500)(h:jK l=some c):
  Calls prog 107 #[v] w fun e g=>∃d f,e=ε (.tuple #[.agg #[.bool c.head.neg,.string c.head.pred,d,f],.bool true])/\QF w.heap.size g d c.head.args/\Rg w.heap.size g f c.body/\μ w g:=by
 refine(Cq w v l k i m).mono ?_;rintro e g ⟨n,j⟩;rw[h] at j;obtain⟨d,f,a,b,c⟩:=j;exact⟨d,f,a,b,c,n⟩
theorem Q6:(prog.info? 93).map (fun i=>(i.zero,i.size,i.bytes))=some (some (.agg #[.bool false,.string ByteArray.empty,ν,ν]),4,72):=by kernel_rfl
def ik(o:Option (List zd))(w:World)(e:Ending)(w':World):Prop:=
 μ w w'/\match o with
  |none=>∃c n a,e=ε (.tuple #[.slice c n a,.bool false])
  |some b=>∃v,e=ε (.tuple #[v,.bool true])/\Rl w.heap.size 93 w' v b
theorem Cz{w w':World}{a:Option Addr}{n cap:Nat}(h:Hid (o=none))(b:μ w w'):ik o w (ε (.tuple #[.slice a n cap,.bool false])) w':=by
 have c:o=none:=h;subst c;exact⟨b,a,n,cap,rfl⟩
theorem Mv{w w':World}{v:Value}{cs:List zd}(h:Hid (o=some cs))(a:μ w w')(hs:Rl w.heap.size 93 w' v cs):ik o w (ε (.tuple #[v,.bool true])) w':=by
 have b:o=some cs:=h;subst b;exact⟨a,v,rfl,hs⟩
theorem Ab(w:World)(v:Value)(l:κ)(Q:SV w v l)(U:∀y∈l,0<y.size)(hl:l.length<=500):
  Calls prog 66 #[v] w fun e w'=>ik (vj l) w e w':=by
 obtain⟨i0,hi,ab,X,S⟩:=info_parts Q6;obtain⟨i1,M,_,_,_⟩:=info_parts Q0;obtain⟨ao,aq,rfl⟩:=Q.qx;go_enter func66,ntmps66;go_wp2;go_loopw [4,5,6] (fun v4 v5 v6 wr=>∃(d:List zd) (f k m:Nat) (R:List Value),v5=ι f/\v6=ι k/\f<=k/\m+k=l.length/\d.length<=k/\μ w wr/\wr.ownsRow w.heap.size 93 4 v4 d.length R/\qA w.heap.size wr d R/\Hid (vj l=(qI l m f k).map (d++·))) (fun _ _ i _=>l.length-(intOf i).toNat)
 case atStart=>exact⟨[],0,0,l.length,[],rfl,rfl,zg _,rfl,by simp,zo _ _,yD _ _ _ _,rfl,(by simp[Hid,vj])⟩
 case round=>
  obtain⟨d,f,k,m,R,rfl,rfl,an,ar,ag,a,g,u,H⟩:=hrel;have aj:=a.size;by_cases P:k<l.length
  ·obtain⟨m,rfl⟩:∃m',m=m'+1:=⟨m-1,by omega⟩;obtain⟨b,o,rfl,L,J⟩:=Q.cell k P;have aa:=zl a L J;have am:b<wr.heap.size:=by omega
   rw[xv P] at aa;clear J;cases z:((gB l k).toList == [46]) with
   |false=>
    have V:Hid (vj l=(qI l m f (k+1)).map (d++·)):=by rw[Hid,H.out,qI,z];rfl
    clear H;generalize gB l k=x at *;go_wp2;go_roundw
    ·exact⟨d,f,k+1,m,R,rfl,by go_num,by omega,by omega,by omega,a,g,u,V⟩
    ·simp[intOf];omega
   |true=>
    have E:Hid (∀y∈(l.drop f).take (k-f),0<y.size):=fun y hy=>U y (dQ (fV hy));cases A:jK ((l.drop f).take (k-f)) with
    |none=>
     have HL:=Q7 A;have D:Hid (vj l=none):=by rw[Hid,H.out,qI,z,zc rfl,A];rfl
     clear H A;generalize gB l k=x at *;go_wp2_with (first|(refine qW _ w rfl (.tmp 21) 30 9 (some (.tmp 22)) (some (.tmp 23)) rfl underlying30 i1 M PW _ l rfl Q f k (zb rfl) (zb rfl) (by omega) (by omega) (k-f) rfl ?_;intro af F t)|(go_at_call 107;refine(JP _ _ ((l.drop f).take (k-f)) (by exact t.below a) E.out (by simp;omega) HL).mono ?_;rintro e w1 ⟨b1,p1,ap,n1,ah,s,n3,j,rfl,h⟩;have p:=QB a h;have C:=p.size))
     go_ret2
     exact Cz D (by go_grown)
    |some c=>
     have HL:=Q7 A;have V:Hid (vj l=(qI l m (k+1) (k+1)).map ((d++[c])++·)):=by rw[Hid,H.out,qI,z,zc rfl,A];simp only[];rw[rN]
     clear H A;generalize gB l k=x at *;go_wp2_with (first|(refine qW _ w rfl (.tmp 21) 30 9 (some (.tmp 22)) (some (.tmp 23)) rfl underlying30 i1 M PW _ l rfl Q f k (zb rfl) (zb rfl) (by omega) (by omega) (k-f) rfl ?_;intro af F t)|(go_at_call 107;refine(PM _ _ ((l.drop f).take (k-f)) c (by exact t.below a) E.out (by simp;omega) HL).mono ?_;rintro e w1 ⟨va,vb,rfl,I,K,h⟩;obtain⟨s,j,rfl⟩:=I.qx;obtain⟨al,ai,rfl⟩:=K.qx;have p:=QB a h;have C:=p.size;have n:=zB g h;have O:=u.mono (fun _ _ q=>q.below h) (fun _ _ q=>q.below h))|(at_builtin;refine ki w1 _ _ _ rfl (.tmp 30) (.tmp 32) 43 rfl w.heap.size 93 i0 _ 4 72 underlying43 hi ab X S rfl (by decide) _ _ _ rfl n zT _ _ rfl (by simp) rfl (by simp[Value.oneCell']) (by omega) (by omega) C ?_;intro v' w2 W Y ad Z r ak;clear ad Z;have ac:QF w.heap.size w2 (Value.slice s c.head.args.length j) c.head.args:=yt (gx n (by decide) I r) a.size;have T:=(K.push n (by decide) (by decide) r).low a.size;have G:=O.mono (fun _ _ q=>gx n (by decide) q r) (fun _ _ q=>q.push n (by decide) (by decide) r)))
     go_roundw
     ·exact⟨d++[c],k+1,k+1,m,_,by go_num,by go_num,zg _,by omega,by simp;omega,p.trans Y,by rw[yq];exact W,G.snoc ac T,V⟩
     ·simp[intOf];omega
  ·have N:m=0:=by omega
   obtain⟨s,j,rfl⟩:=zp g;by_cases B:f=l.length
   ·have D:Hid (vj l=some d):=by rw[Hid,H.out,N,qI,zc B];simp
    have ae:((f:Int) == (l.length:Int))=true:=by rw[beq_iff_eq];omega
    clear H;go_wp2;go_ret2
    exact Mv D a ⟨_,g,u⟩
   ·have D:Hid (vj l=none):=by rw[Hid,H.out,N,qI,za B];rfl
    have ae:((f:Int) == (l.length:Int))=false:=by rw[beq_eq_false_iff_ne];omega
    clear H;go_wp2;go_ret2
    exact Cz D a
end
end Go.Proofs.YteampbddflhngaaGreat
