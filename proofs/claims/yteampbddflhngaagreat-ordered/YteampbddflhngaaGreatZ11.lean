import Derived.Deep.Cut
import Derived.Test.YteampbddflhngaaGreatZ10
namespace Go.Proofs.YteampbddflhngaaGreat
set_option linter.all false
set_option maxRecDepth 100000
set_option maxHeartbeats 2000000
open Go.Proofs.Tryz Go.RowKit
section
variable {lo:Nat}
def IW(o:Option zd)(w:World)(e:Ending)(w':World):Prop:=
 μ w w'/\match o with
  |none=>∃b p j n f d i a,e=ε (.tuple #[.agg #[.bool b,.string p,.slice j n f,.slice d i a],.bool false])
  |some c=>∃g h,e=ε (.tuple #[.agg #[.bool c.head.neg,.string c.head.pred,g,h],.bool true])/\QD w.heap.size w' g c.head.args/\Re w.heap.size w' h c.body
theorem JQ(w:World)(v:Value)(l:κ)(g:SV w v l)(a:∀y∈l,0<y.size)(d:l.length<=500)(h:yF l (l.length+1) 0 0 0=none):
  Calls prog 153 #[v] w fun e b=>e=ε (.tuple #[ν,.bool false])/\μ w b:=by
 refine(Ck w v l g a d).mono ?_;rintro e b ⟨f,c⟩;rw[h] at c;exact⟨c,f⟩
theorem NW(w:World)(v:Value)(l:κ)(i:List zj)(m:SV w v l)(d:∀y∈l,0<y.size)(j:l.length<=500)(h:yF l (l.length+1) 0 0 0=some i):
  Calls prog 153 #[v] w fun e f=>∃c,e=ε (.tuple #[c,.bool true])/\Re w.heap.size f c i/\μ w f:=by
 refine(Ck w v l m d j).mono ?_;rintro e f ⟨k,g⟩;rw[h] at g;obtain⟨c,a,b⟩:=g;exact⟨c,a,b,k⟩
theorem E0(w:World)(v:Value)(l:κ)(T:SV w v l)(V:∀y∈l,0<y.size)(hl:l.length<=500):
  Calls prog 107 #[v] w fun e w'=>IW (kd l) w e w':=by
 obtain⟨i1,M,_,_,_⟩:=info_parts Qq;obtain⟨ao,a2,rfl⟩:=T.qx;have hW:μ w ((w.alloc (.cells #[.bool false,.string {data:=#[]},ν,ν] 93)).alloc (.cells #[.bool false,.string {data:=#[]},ν,ν] 93)):=(by go_grown);have aa:Q6 ((w.alloc (.cells #[.bool false,.string {data:=#[]},ν,ν] 93)).alloc (.cells #[.bool false,.string {data:=#[]},ν,ν] 93)) w.heap.size #[.bool false,.string {data:=#[]},ν,ν] 93:=(Q6.new w _ _).below zT;have Z:Q6 ((w.alloc (.cells #[.bool false,.string {data:=#[]},ν,ν] 93)).alloc (.cells #[.bool false,.string {data:=#[]},ν,ν] 93)) (w.heap.size+1) #[.bool false,.string {data:=#[]},ν,ν] 93:=Q6.newAt _ _ _ _ (by simp);go_enter func107,ntmps107;go_wp2;go_loop [5] (fun i=>∃k:Nat,k<=l.length/\i=ι k/\Hid (xG l=k+xG (l.drop k))) (fun i=>l.length-(intOf i).toNat)
 case atStart=>exact⟨0,zv _,rfl,by simp[Hid]⟩
 case round=>
  obtain⟨k,hk,rfl,H⟩:=hrel;by_cases L:k<l.length
  case' pos=>
   obtain⟨b,o,rfl,a1,au⟩:=T.cell k L;rw[xx L] at au;cases hI:((gB l k).toList == [58,45])
   ·have H2:Hid (xG l=(k+1)+xG (l.drop (k+1))):=by rw[Hid,H.out,Hx L hI];omega
    clear H;generalize gB l k=x at *;go_wp2;go_round
    case rel=>exact⟨k+1,by omega,by go_num,H2⟩
    case measure=>simp[intOf];omega
   have HK:Hid (xG l=k):=by rw[Hid,H.out,Nb L hI];rfl
   generalize gB l k=x at *
  case' neg=>
   have HK:Hid (xG l=k):=by rw[Hid,H.out,ue (by omega)];rfl
  all_goals
   clear H;have am:Hid (∀y∈l.take k,0<y.size):=fun y hy=>V y (fS hy);cases hL:jD (l.take k) true
   ·have S:=Q5 hL;have P:Hid (kd l=none):=by unfold Hid kd;rw[HK.out,hL]
    clear hL;go_upto_region 7 with (first|(refine jo _ w rfl (.tmp 24) 30 9 none (some (.tmp 25)) rfl underlying30 i1 M PS _ l rfl T 0 k (zf ⟨rfl,rfl⟩) (zb rfl) (by omega) (by omega) k rfl ?_;intro aq ai z;rw[gU] at z)|(go_at_call 152;refine(il _ _ (l.take k) true (by exact z.below hW) am.out (by simp;omega) S).mono ?_;rintro e I ⟨J,G,d,K,c,rfl,n⟩;have f:=aa.below n;have h:=Z.below n;obtain⟨C,q⟩:=f.rules;obtain⟨E,B,aw⟩:=h.boxed;have an:=f.lt;have Q:=Q9 hW n))
    have s:Q6 ((((I.setCell ⟨w.heap.size+1,0,none⟩ (.bool J)).setCell ⟨w.heap.size+1,1,none⟩ (.string G)).setCell ⟨w.heap.size+1,2,none⟩ (.slice d K c)).alloc (.cells #[.bool J,.string G,.slice d K c] 90)) (w.heap.size+1) #[.bool J,.string G,.slice d K c,ν] 93:=(((h.set 0 _).set 1 _).set 2 _).below zT;have g:Q6 ((((I.setCell ⟨w.heap.size+1,0,none⟩ (.bool J)).setCell ⟨w.heap.size+1,1,none⟩ (.string G)).setCell ⟨w.heap.size+1,2,none⟩ (.slice d K c)).alloc (.cells #[.bool J,.string G,.slice d K c] 90)) w.heap.size #[.bool false,.string {data:=#[]},ν,ν] 93:=(((f.set_ne (by omega) _ _).set_ne (by omega) _ _).set_ne (by omega) _ _).below zT;have A:μ w ((((I.setCell ⟨w.heap.size+1,0,none⟩ (.bool J)).setCell ⟨w.heap.size+1,1,none⟩ (.string G)).setCell ⟨w.heap.size+1,2,none⟩ (.slice d K c)).alloc (.cells #[.bool J,.string G,.slice d K c] 90)):=by have hq:=Q.size;exact(by go_grown)
    generalize ((((I.setCell ⟨w.heap.size+1,0,none⟩ (.bool J)).setCell ⟨w.heap.size+1,1,none⟩ (.string G)).setCell ⟨w.heap.size+1,2,none⟩ (.slice d K c)).alloc (.cells #[.bool J,.string G,.slice d K c] 90))=w2 at *;clear f h C q E B;obtain⟨D,af⟩:=g.rules;obtain⟨ap,Y,ar⟩:=s.boxed;have ab:=g.lt;go_wp2;rw[P.out];exact zL (v:=.tuple #[.agg #[.bool J,.string G,.slice d K c,ν],.bool false]) (by simp[results,results107,go_sem,D]) rfl ⟨(by go_grown),_,_,_,_,_,_,_,_,rfl⟩
   rename_i a;have S:=Q5 hL;clear hL;go_upto_region 7 with (first|(refine jo _ w rfl (.tmp 24) 30 9 none (some (.tmp 25)) rfl underlying30 i1 M PS _ l rfl T 0 k (zf ⟨rfl,rfl⟩) (zb rfl) (by omega) (by omega) k rfl ?_;intro aq ai z;rw[gU] at z)|(go_at_call 152;refine(e6 _ _ (l.take k) true a (by exact z.below hW) am.out (by simp;omega) S).mono ?_;rintro e I ⟨va,rfl,W,n⟩;obtain⟨d,c,rfl⟩:=W.qx;have f:=aa.below n;have h:=Z.below n;obtain⟨C,q⟩:=f.rules;obtain⟨E,B,aw⟩:=h.boxed;have an:=f.lt;have Q:=Q9 hW n))
   have s:Q6 ((((I.setCell ⟨w.heap.size+1,0,none⟩ (.bool a.neg)).setCell ⟨w.heap.size+1,1,none⟩ (.string a.pred)).setCell ⟨w.heap.size+1,2,none⟩ (.slice d a.args.length c)).alloc (.cells #[.bool a.neg,.string a.pred,.slice d a.args.length c] 90)) (w.heap.size+1) #[.bool a.neg,.string a.pred,.slice d a.args.length c,ν] 93:=(((h.set 0 _).set 1 _).set 2 _).below zT;have g:Q6 ((((I.setCell ⟨w.heap.size+1,0,none⟩ (.bool a.neg)).setCell ⟨w.heap.size+1,1,none⟩ (.string a.pred)).setCell ⟨w.heap.size+1,2,none⟩ (.slice d a.args.length c)).alloc (.cells #[.bool a.neg,.string a.pred,.slice d a.args.length c] 90)) w.heap.size #[.bool false,.string {data:=#[]},ν,ν] 93:=(((f.set_ne (by omega) _ _).set_ne (by omega) _ _).set_ne (by omega) _ _).below zT;have A:μ w ((((I.setCell ⟨w.heap.size+1,0,none⟩ (.bool a.neg)).setCell ⟨w.heap.size+1,1,none⟩ (.string a.pred)).setCell ⟨w.heap.size+1,2,none⟩ (.slice d a.args.length c)).alloc (.cells #[.bool a.neg,.string a.pred,.slice d a.args.length c] 90)):=by have hq:=Q.size;exact(by go_grown)
   have X:QD w.heap.size ((((I.setCell ⟨w.heap.size+1,0,none⟩ (.bool a.neg)).setCell ⟨w.heap.size+1,1,none⟩ (.string a.pred)).setCell ⟨w.heap.size+1,2,none⟩ (.slice d a.args.length c)).alloc (.cells #[.bool a.neg,.string a.pred,.slice d a.args.length c] 90)) (.slice d a.args.length c) a.args:=((W.low (by simp only[World.size_alloc];omega)).but (r:=w.heap.size+1) ((((QH.refl _ _).setCell _ _).setCell _ _).setCell _ _) h (by decide)).below zT;generalize ((((I.setCell ⟨w.heap.size+1,0,none⟩ (.bool a.neg)).setCell ⟨w.heap.size+1,1,none⟩ (.string a.pred)).setCell ⟨w.heap.size+1,2,none⟩ (.slice d a.args.length c)).alloc (.cells #[.bool a.neg,.string a.pred,.slice d a.args.length c] 90))=w2 at *;clear f h C q E B;obtain⟨D,af⟩:=g.rules;obtain⟨ap,Y,ar⟩:=s.boxed;have ab:=g.lt
  ·have ag:Hid (k=l.length):=by unfold Hid;omega
   have P:Hid (kd l=some ⟨a,[]⟩):=by unfold Hid kd;rw[HK.out,S.out];simp only[];rw[zc ag.out]
   have ay:((k:Int) == (l.length:Int))=true:=by rw[beq_iff_eq];have:=ag.out;omega
   go_wp2;rw[P.out];exact zL (v:=.tuple #[.agg #[.bool a.neg,.string a.pred,.slice d a.args.length c,ν],.bool true]) (by simp[results,results107,go_sem,D]) rfl ⟨(by go_grown),_,_,rfl,X.but (r:=w.heap.size) (by repeat'(first|with_reducible(first|apply xR|assumption|apply xN|apply xA|apply xD|apply xS|apply xT)|go_size)) g (by decide),Re.nil _⟩
  ·have N:Hid (∀y∈l.drop (k+1),0<y.size):=fun y hy=>V y (dK hy);have ay:((k:Int) == (l.length:Int))=false:=by rw[beq_eq_false_iff_ne];omega
   cases p:yF (l.drop (k+1)) ((l.drop (k+1)).length+1) 0 0 0 with
   |none=>
    have O:=Q5 p;have P:Hid (kd l=none):=by unfold Hid kd;rw[HK.out,S.out];simp only[];rw[za (by omega),p]
    clear p;go_wp2_with (first|(refine jo _ w rfl (.tmp 43) 30 9 (some (.tmp 45)) none rfl underlying30 i1 M PS _ l rfl T (k+1) l.length (zb rfl) (zf ⟨rfl,rfl⟩) (by omega) (by omega) (l.length-(k+1)) rfl ?_;intro ax ac t;rw[xh (by simp)] at t)|(go_at_call 153;refine(JQ _ _ (l.drop (k+1)) (by exact t.below A) N.out (by simp;omega) O).mono ?_;rintro e w3 ⟨rfl,j⟩;have m:=g.below j;have F:=s.below j;obtain⟨u,ae⟩:=m.rules;obtain⟨ah,aj,a0⟩:=F.boxed;have ak:=m.lt;have R:=Q9 A j;have al:=R.size))
    rw[P.out];exact zL (v:=.tuple #[.agg #[.bool a.neg,.string a.pred,.slice d a.args.length c,ν],.bool false]) (by simp[results,results107,go_sem,u]) rfl ⟨(by go_grown),_,_,_,_,_,_,_,_,rfl⟩
   |some bd=>
    have O:=Q5 p;have P:Hid (kd l=some ⟨a,bd⟩):=by unfold Hid kd;rw[HK.out,S.out];simp only[];rw[za (by omega),p]
    clear p;go_wp2_with (first|(refine jo _ w rfl (.tmp 43) 30 9 (some (.tmp 45)) none rfl underlying30 i1 M PS _ l rfl T (k+1) l.length (zb rfl) (zf ⟨rfl,rfl⟩) (by omega) (by omega) (l.length-(k+1)) rfl ?_;intro ax ac t;rw[xh (by simp)] at t)|(go_at_call 153;refine(NW _ _ (l.drop (k+1)) bd (by exact t.below A) N.out (by simp;omega) O).mono ?_;rintro e w3 ⟨vb,rfl,ad,j⟩;obtain⟨av,U,rfl⟩:=ad.qx;have m:=g.below j;have F:=s.below j;obtain⟨u,ae⟩:=m.rules;obtain⟨ah,aj,a0⟩:=F.boxed;have ak:=m.lt;have R:=Q9 A j;have al:=R.size))
    rw[P.out];have az:=X.below j;exact zL (v:=.tuple #[.agg #[.bool a.neg,.string a.pred,.slice d a.args.length c,.slice av bd.length U],.bool true]) (by simp[results,results107,go_sem,u]) rfl ⟨(by go_grown),_,_,rfl,(az.but (r:=w.heap.size+1) ((QH.refl _ _).setCell _ _) F (by decide)).but (r:=w.heap.size) (by repeat'(first|with_reducible(first|apply xR|assumption|apply xN|apply xA|apply xD|apply xS|apply xT)|go_size)) (m.set_ne (by omega) _ _) (by decide),((ad.low (by omega)).but (r:=w.heap.size+1) ((QH.refl _ _).setCell _ _) F (by decide) (by decide)).but (r:=w.heap.size) (by repeat'(first|with_reducible(first|apply xR|assumption|apply xN|apply xA|apply xD|apply xS|apply xT)|go_size)) (m.set_ne (by omega) _ _) (by decide) (by decide)⟩
end
section
variable {lo:Nat}{o:Option (List zd)}
theorem NQ(w:World)(v:Value)(l:κ)(s:SV w v l)(g:∀y∈l,0<y.size)(m:l.length<=500)(h:kd l=none):
  Calls prog 107 #[v] w fun e j=>∃b p i n d c f a,e=ε (.tuple #[.agg #[.bool b,.string p,.slice i n d,.slice c f a],.bool false])/\μ w j:=by
 refine(E0 w v l s g m).mono ?_;rintro e j ⟨q,k⟩;rw[h] at k;obtain⟨b,p,i,n,d,c,f,a,r⟩:=k;exact⟨b,p,i,n,d,c,f,a,r,q⟩
theorem I8(w:World)(v:Value)(l:κ)(c:zd)(n:SV w v l)(i:∀y∈l,0<y.size)(k:l.length<=500)(h:kd l=some c):
  Calls prog 107 #[v] w fun e d=>∃f g,e=ε (.tuple #[.agg #[.bool c.head.neg,.string c.head.pred,f,g],.bool true])/\QD w.heap.size d f c.head.args/\Re w.heap.size d g c.body/\μ w d:=by
 refine(E0 w v l n i k).mono ?_;rintro e d ⟨m,j⟩;rw[h] at j;obtain⟨f,g,a,b,c⟩:=j;exact⟨f,g,a,b,c,m⟩
theorem Qy:(prog.info? 93).map (fun i=>(i.zero,i.size,i.bytes))=some (some (.agg #[.bool false,.string ByteArray.empty,ν,ν]),4,72):=by kernel_rfl
def ow(o:Option (List zd))(w:World)(e:Ending)(w':World):Prop:=
 μ w w'/\match o with
  |none=>∃c n a,e=ε (.tuple #[.slice c n a,.bool false])
  |some b=>∃v,e=ε (.tuple #[v,.bool true])/\Rh w.heap.size 93 w' v b
theorem BI{w w':World}{a:Option Addr}{n cap:Nat}(h:Hid (o=none))(c:μ w w'):ow o w (ε (.tuple #[.slice a n cap,.bool false])) w':=by
 have b:o=none:=h;subst b;exact⟨c,a,n,cap,rfl⟩
theorem MH{w w':World}{v:Value}{cs:List zd}(h:Hid (o=some cs))(b:μ w w')(hs:Rh w.heap.size 93 w' v cs):ow o w (ε (.tuple #[v,.bool true])) w':=by
 have a:o=some cs:=h;subst a;exact⟨b,v,rfl,hs⟩
theorem o6(w:World)(v:Value)(l:κ)(R:SV w v l)(W:∀y∈l,0<y.size)(hl:l.length<=500):
  Calls prog 66 #[v] w fun e w'=>ow (vu l) w e w':=by
 obtain⟨i0,hi,S,ad,T⟩:=info_parts Qy;obtain⟨i1,P,_,_,_⟩:=info_parts Qq;obtain⟨ao,aq,rfl⟩:=R.qx;go_enter func66,ntmps66;go_wp2;go_loopw [4,5,6] (fun v4 v5 v6 wr=>∃(d:List zd) (f k m:Nat) (Q:List Value),v5=ι f/\v6=ι k/\f<=k/\m+k=l.length/\d.length<=k/\μ w wr/\wr.ownsRow w.heap.size 93 4 v4 d.length Q/\qD w.heap.size wr d Q/\Hid (vu l=(qC l m f k).map (d++·))) (fun _ _ i _=>l.length-(intOf i).toNat)
 case atStart=>exact⟨[],0,0,l.length,[],rfl,rfl,zg _,rfl,by simp,zo _ _,yC _ _ _ _,rfl,(by simp[Hid,vu])⟩
 case round=>
  obtain⟨d,f,k,m,Q,rfl,rfl,ar,an,aj,a,g,t,H⟩:=hrel;have ak:=a.size;by_cases N:k<l.length
  ·obtain⟨m,rfl⟩:∃m',m=m'+1:=⟨m-1,by omega⟩;obtain⟨b,o,rfl,I,D⟩:=R.cell k N;have ae:=zl a I D;have am:b<wr.heap.size:=by omega
   rw[xx N] at ae;clear D;cases s:((gB l k).toList == [46]) with
   |false=>
    have X:Hid (vu l=(qC l m f (k+1)).map (d++·)):=by rw[Hid,H.out,qC,s];rfl
    clear H;generalize gB l k=x at *;go_wp2;go_roundw
    case rel=>exact⟨d,f,k+1,m,Q,rfl,by go_num,by omega,by omega,by omega,a,g,t,X⟩
    case measure=>simp[intOf];omega
   |true=>
    have B:Hid (∀y∈(l.drop f).take (k-f),0<y.size):=fun y hy=>W y (dK (fS hy));cases A:kd ((l.drop f).take (k-f)) with
    |none=>
     have HL:=Q5 A;have K:Hid (vu l=none):=by rw[Hid,H.out,qC,s,zc rfl,A];rfl
     clear H A;generalize gB l k=x at *;go_wp2_with (first|(refine jo _ w rfl (.tmp 21) 30 9 (some (.tmp 22)) (some (.tmp 23)) rfl underlying30 i1 P PS _ l rfl R f k (zb rfl) (zb rfl) (by omega) (by omega) (k-f) rfl ?_;intro aa E z)|(go_at_call 107;refine(NQ _ _ ((l.drop f).take (k-f)) (by exact z.below a) B.out (by simp;omega) HL).mono ?_;rintro e w1 ⟨b1,p1,ap,n1,ah,u,n3,j,rfl,h⟩;have r:=Q9 a h;have C:=r.size))
     go_ret2
     exact BI K (by go_grown)
    |some c=>
     have HL:=Q5 A;have X:Hid (vu l=(qC l m (k+1) (k+1)).map ((d++[c])++·)):=by rw[Hid,H.out,qC,s,zc rfl,A];simp only[];rw[rI]
     clear H A;generalize gB l k=x at *;go_wp2_with (first|(refine jo _ w rfl (.tmp 21) 30 9 (some (.tmp 22)) (some (.tmp 23)) rfl underlying30 i1 P PS _ l rfl R f k (zb rfl) (zb rfl) (by omega) (by omega) (k-f) rfl ?_;intro aa E z)|(go_at_call 107;refine(I8 _ _ ((l.drop f).take (k-f)) c (by exact z.below a) B.out (by simp;omega) HL).mono ?_;rintro e w1 ⟨va,vb,rfl,L,O,h⟩;obtain⟨u,j,rfl⟩:=L.qx;obtain⟨al,ai,rfl⟩:=O.qx;have r:=Q9 a h;have C:=r.size;have n:=zB g h;have J:=t.mono (fun _ _ q=>q.below h) (fun _ _ q=>q.below h))|(at_builtin;refine ks w1 _ _ _ rfl (.tmp 30) (.tmp 32) 43 rfl w.heap.size 93 i0 _ 4 72 underlying43 hi S ad T rfl (by decide) _ _ _ rfl n zT _ _ rfl (by simp) rfl (by simp[Value.oneCell']) (by omega) (by omega) C ?_;intro v' w2 ab ac V Z p ag;clear V Z;have af:QD w.heap.size w2 (Value.slice u c.head.args.length j) c.head.args:=yr (gC n (by decide) L p) a.size;have Y:=(O.push n (by decide) (by decide) p).low a.size;have F:=J.mono (fun _ _ q=>gC n (by decide) q p) (fun _ _ q=>q.push n (by decide) (by decide) p)))
     go_roundw
     case rel=>exact⟨d++[c],k+1,k+1,m,_,by go_num,by go_num,zg _,by omega,by simp;omega,r.trans ac,by rw[yp];exact ab,F.snoc af Y,X⟩
     case measure=>simp[intOf];omega
  ·have G:m=0:=by omega
   obtain⟨u,j,rfl⟩:=zp g;by_cases M:f=l.length
   ·have K:Hid (vu l=some d):=by rw[Hid,H.out,G,qC,zc M];simp
    have U:((f:Int) == (l.length:Int))=true:=by rw[beq_iff_eq];omega
    clear H;go_wp2;go_ret2
    exact MH K a ⟨_,g,t⟩
   ·have K:Hid (vu l=none):=by rw[Hid,H.out,G,qC,za M];rfl
    have U:((f:Int) == (l.length:Int))=false:=by rw[beq_eq_false_iff_ne];omega
    clear H;go_wp2;go_ret2
    exact BI K a
end
end Go.Proofs.YteampbddflhngaaGreat
