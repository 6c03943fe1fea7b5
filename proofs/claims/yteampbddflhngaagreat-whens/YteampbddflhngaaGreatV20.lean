import Derived.Test.YteampbddflhngaaGreatV13
namespace Go.Proofs.YteampbddflhngaaGreat
set_option linter.all false
set_option maxRecDepth 100000
set_option maxHeartbeats 2000000
open Go.Proofs.Tryz Go.RowKit
theorem Gv(w:World)(v:Value)(x:ByteArray)(L:List ByteArray)(hv:SV w v (x::L))(M:∀y∈L,0<y.size)(hx:(x.toList == [33])=true)(aC:L.length<=500)(aB:¬L.length=0)(X:yQ (Pi (gB L 0) 0)=true)(a2:¬L.length=1)(a0:¬L.length<4)(a1:¬L.length%2=1)(B:((gB L 1).toList == [40])=true)(C:((gB L (L.length-1)).toList == [41])=true):
  Calls prog 152 #[v,.bool false] w fun e F=>jw (xf true L) w e F:=by
 obtain⟨i0,hi,Q,ac,ai⟩:=info_parts O4;obtain⟨ax,au,rfl⟩:=hv.qw;obtain⟨b1,o1,rfl,af,z⟩:=hv.cells (by simp);have Y:=z 0 (by simp);rw[uI,kK] at Y;clear z;have ae:0<(gB L 0).size:=by rw[←xt (by omega:0<L.length)];exact M _ (zu _)
 have a5:((L.length:Int) == 0)=false:=by rw[beq_eq_false_iff_ne];omega
 have a8:((L.length:Int) == 1)=false:=by rw[beq_eq_false_iff_ne];omega
 have a9:((L.length:Int)%2 == 1)=false:=by rw[beq_eq_false_iff_ne];omega
 go_enter func152,ntmps152;go_wp2_with (first|(refine qN _ w rfl (.tmp 26) 30 9 (some (.const (.int .i64 1))) none rfl underlying30 i0 hi OC _ (x::L) rfl hv 1 (L.length+1) (ze rfl) (zf ⟨rfl,rfl⟩) (by omega) (by simp) L.length (by omega) ?_;intro az an S;simp only[lg,gI,uO] at S;obtain⟨b,o,rfl,N,l⟩:=S.cells (by omega);have J:=l 0 (by omega);have ab:=l 1 (by omega);have V:=l (L.length-1) (by omega);rw[xt (by omega)] at J ab V;rw[uI] at J;have ag:=OY l;clear l)|(go_at_call 184;refine(kE _ _ ae).mono ?_;rintro e F ⟨rfl,rfl⟩))
 go_loopw [9] (fun i wr=>∃(k:Nat) (av:Value),2<=k/\k<=L.length-1/\i=.int .i64 k/\Hid (vN L k=true)/\Below w.heap.size w wr/\OZ wr w.heap.size #[.bool false,.string ByteArray.empty,.slice none 0 0] 90/\OZ wr (w.heap.size+1) #[.bool true,.string (gB L 0),av] 90/\wr.ownsRow w.heap.size 9 1 av (uz L k).length ((uz L k).map Value.string)) (fun i _=>L.length-(intOf i).toNat)
 case atStart=>exact⟨2,_,zh _,by omega,rfl,by simp[Hid,vN],(by go_grown),(OZ.new w _ _).below zO,OZ.newAt _ _ _ _ (by simp),yK _ _ _ _⟩
 case round=>
  obtain⟨k,av,s,hk,rfl,H,g,m,f,a⟩:=hrel;obtain⟨A,q,rfl⟩:=zq a;obtain⟨a4,a6⟩:=f.rules;obtain⟨D,a7⟩:=m.rules;have ao:=g.size;have aw:=f.lt;have am:=iD L k;by_cases aA:k<L.length-1
  ·have ad:=(g.cell (p:=⟨b,o+k,none⟩) N).trans (ag.out k (by omega));have ay:b<wr.heap.size:=by omega
   have a3:k<L.length:=by omega
   have n:0<L[k].size:=M _ (zu _);rw[xt (by omega:k<L.length)] at ad n;have G:uz L (k+1)=uz L k++(if 2<=k/\k%2=0 then [gB L k] else []):=rfl;have t:vN L (k+1)=(vN L k&&(decide (k<2)||QF L k)):=rfl;rw[H.out,decide_eq_false (by omega:¬k<2),ml,mE] at t;have u:Hid (QF L k=false->vN L (L.length-1)=false):=fun h=>Ap (i:=k+1) (by rw[t,h]) _ (by omega);unfold QF at t u;by_cases d:k%2=0
   ·rw[zb d] at t u;rw[zb ⟨s,d⟩] at G;have al:((k:Int)%2 == 0)=true:=by rw[beq_iff_eq];omega
    have Z:((k:Int)%2 == 1)=false:=by rw[beq_eq_false_iff_ne];omega
    have T:=OY G;have E:=OY t;clear G t d;cases I:P9 (Pi (gB L k) 0) with
    |false=>
     have R:Hid (xf true L=none):=by unfold Hid xf;rw[za (by omega),X,za (by simp),za (by omega),za (by rw[B,C];simp;omega),u.out I];simp
     clear u T E;generalize gB L k=U at *;go_wp2_with (first|(go_at_call 185;refine(lS _ _ n).mono ?_;rintro e F ⟨rfl,c⟩;obtain rfl:=c.symm))
     rw[R.out];exact zJ (v:=.tuple #[.agg #[.bool true,.string (gB L 0),.slice A (uz L k).length q],.bool false]) (by simp[results,results152,go_sem,D];try rfl) rfl ⟨(by go_grown),_,_,_,_,_,rfl⟩
    |true=>
     rw[I] at E;clear u;generalize gB L k=U at *;generalize aa:uz L k=ak at *;clear aa;go_wp2_with (first|(go_at_call 185;refine(lS _ _ n).mono ?_;rintro e F ⟨rfl,c⟩;obtain rfl:=c.symm))
     go_region_law (first|(refine oe wr _ [.string U] 9 rfl (.tmp 103) (.tmp 108) 30 rfl w.heap.size 9 i0 _ 1 16 underlying30 hi Q ac ai rfl (by decide) _ _ _ (by simp[Act.eval]) a (by exact(by go_grown)) wr.heap.size 1 (by simp[Act.eval]) (by exact OZ.drew (OZ.newAt _ _ _ _ rfl)) rfl (by simp[Value.oneCell']) (by omega) (by omega) g.size ?_;intro v' w2 P aj s aq;obtain⟨ah,K,rfl⟩:=zq P;have j:=OZ.keep (OZ.drew (f.below zO)) (fg a f (by decide)) s;have O:=OZ.keep (OZ.drew (m.below zO)) (fg a m (by decide)) s;obtain⟨ar,ap⟩:=j.rules))
     all_goals
      go_wp2;go_roundw
      case rel=>exact⟨k+1,_,by omega,by omega,by go_num,E,(g.trans aj).setCell (by simp) _,O.set_ne (by omega) _ _,j.set 2 _,by rw[T.out];have:=xQ P ((Pm.refl (w.heap.size+1) w2).setCell 2 (.slice ah (ak.length+1) K)) j (by decide);simpa using this⟩
      case measure=>simp[intOf];omega
   ·rw[za d] at t u;rw[za (by omega),qA] at G;have al:((k:Int)%2 == 0)=false:=by rw[beq_eq_false_iff_ne];omega
    have Z:((k:Int)%2 == 1)=true:=by rw[beq_iff_eq];omega
    have T:=OY G;have E:=OY t;clear G t d;cases I:((gB L k).toList == [44]) with
    |false=>
     have R:Hid (xf true L=none):=by unfold Hid xf;rw[za (by omega),X,za (by simp),za (by omega),za (by rw[B,C];simp;omega),u.out I];simp
     clear u T E;generalize gB L k=U at *;go_wp2_with (first|(go_at_call 185;refine(lS _ _ n).mono ?_;rintro e F ⟨rfl,c⟩;obtain rfl:=c.symm))
     rw[R.out];exact zJ (v:=.tuple #[.agg #[.bool true,.string (gB L 0),.slice A (uz L k).length q],.bool false]) (by simp[results,results152,go_sem,D];try rfl) rfl ⟨(by go_grown),_,_,_,_,_,rfl⟩
    |true=>
     rw[I] at E;have aD:=D5 I;clear u;generalize gB L k=U at *;go_wp2_with (first|(go_at_call 185;refine(lS _ _ n).mono ?_;rintro e F ⟨rfl,c⟩;obtain rfl:=c.symm))
     go_roundw
     case rel=>exact⟨k+1,_,by omega,by omega,by go_num,E,g,m,f,by rw[T.out];exact a⟩
     case measure=>simp[intOf];omega
  ·have W:k=L.length-1:=by omega
   have R:Hid (xf true L=some ⟨true,gB L 0,uz L k⟩):=by unfold Hid xf;rw[za (by omega),X,za (by simp),za (by omega),za (by rw[B,C];simp;omega),←W,H.out];simp
   clear H;generalize uz L k=ak at *;go_wp2;rw[R.out];exact zJ (v:=.tuple #[.agg #[.bool true,.string (gB L 0),.slice A ak.length q],.bool true]) (by simp[results,results152,go_sem,D]) rfl ⟨(by go_grown),_,rfl,xQ (r:=w.heap.size) a (by repeat'(first|with_reducible(first|apply xR|assumption|apply xN|apply xA|apply xD|apply xS|apply xT)|go_size)) m (by decide)⟩
section
variable {lo:Nat}{o:Option (List zj)}
theorem E7(w:World)(v:Value)(l:List ByteArray)(b:Bool)(k:SV w v l)(g:∀y∈l,0<y.size)(r:l.length<=500):
  Calls prog 152 #[v,.bool b] w fun e u=>jw (jp l b) w e u:=by
 unfold jp;cases p:PK l b with
 |false=>
  rw[za (by simp)];by_cases d:l.length=0
  ·have:xf false l=none:=by unfold xf;rw[zb d]
   rw[this];exact IK w v l b k g r p d
  ·cases f:yQ (Pi (gB l 0) 0) with
   |false=>
    have:xf false l=none:=by unfold xf;rw[za d,zb f]
    rw[this];exact Iv w v l b k g r p d f
   |true=>
    by_cases i:l.length=1
    ·have:xf false l=some ⟨false,gB l 0,[]⟩:=by unfold xf;rw[za d,f,za (by simp),zb i]
     rw[this];exact IC w v l b k g r p d f i
    ·by_cases a:l.length<4∨l.length%2=1∨((gB l 1).toList == [40])=false∨((gB l (l.length-1)).toList == [41])=false
     ·have:xf false l=none:=by unfold xf;rw[za d,f,za (by simp),za i,zb a]
      rw[this];by_cases q:l.length<4
      ·exact N1 w v l b k g r p d f i q
      ·by_cases s:l.length%2=1
       ·exact LE w v l b k g r p d f i q s
       ·cases m:((gB l 1).toList == [40]) with
        |false=>exact KZ w v l b k g r p d f i q s m
        |true=>
         cases n:((gB l (l.length-1)).toList == [41]) with
         |false=>exact MN w v l b k g r p d f i q s m n
         |true=>rw[m,n] at a;simp at a;omega
     ·simp only[not_or,pB] at a;exact FV w v l b k g r p d f i a.1 a.2.1 a.2.2.1 a.2.2.2
 |true=>
  rw[zb rfl];simp only[PK,uZ,decide_eq_true_eq,Bool.not_eq_true'] at p;obtain⟨⟨A,t⟩,rfl⟩:=p;cases l with
  |nil=>simp at A
  |cons x l=>
   have j:(x.toList == [33])=true:=t;have c:∀y∈l,0<y.size:=fun y z=>g y (nW _ z);have h:l.length<=500:=by simp at r;omega
   rw[fX];by_cases d:l.length=0
   ·have:xf true l=none:=by unfold xf;rw[zb d]
    rw[this];exact Js w v x l k c j h d
   ·cases f:yQ (Pi (gB l 0) 0) with
    |false=>
     have:xf true l=none:=by unfold xf;rw[za d,zb f]
     rw[this];exact Gn w v x l k c j h d f
    |true=>
     by_cases i:l.length=1
     ·have:xf true l=some ⟨true,gB l 0,[]⟩:=by unfold xf;rw[za d,f,za (by simp),zb i]
      rw[this];exact Kb w v x l k c j h d f i
     ·by_cases a:l.length<4∨l.length%2=1∨((gB l 1).toList == [40])=false∨((gB l (l.length-1)).toList == [41])=false
      ·have:xf true l=none:=by unfold xf;rw[za d,f,za (by simp),za i,zb a]
       rw[this];by_cases q:l.length<4
       ·exact Mc w v x l k c j h d f i q
       ·by_cases s:l.length%2=1
        ·exact Gc w v x l k c j h d f i q s
        ·cases m:((gB l 1).toList == [40]) with
         |false=>exact Hp w v x l k c j h d f i q s m
         |true=>
          cases n:((gB l (l.length-1)).toList == [41]) with
          |false=>exact Ml w v x l k c j h d f i q s m n
          |true=>rw[m,n] at a;simp at a;omega
      ·simp only[not_or,pB] at a;exact Gv w v x l k c j h d f i a.1 a.2.1 a.2.2.1 a.2.2.2
theorem ig(w:World)(v:Value)(l:List ByteArray)(a:Bool)(j:SV w v l)(f:∀y∈l,0<y.size)(m:l.length<=500)(h:jp l a=none):
  Calls prog 152 #[v,.bool a] w fun e i=>∃b p d n c,e=.returned (.tuple #[.agg #[.bool b,.string p,.slice d n c],.bool false])/\Below w.heap.size w i:=by
 refine(E7 w v l a j f m).mono ?_;rintro e i ⟨k,g⟩;rw[h] at g;obtain⟨b,p,d,n,c,q⟩:=g;exact⟨b,p,d,n,c,q,k⟩
theorem ir(w:World)(v:Value)(l:List ByteArray)(b:Bool)(a:zj)(i:SV w v l)(d:∀y∈l,0<y.size)(m:l.length<=500)(h:jp l b=some a):
  Calls prog 152 #[v,.bool b] w fun e f=>∃c,e=.returned (.tuple #[.agg #[.bool a.neg,.string a.pred,c],.bool true])/\Pg w.heap.size f c a.args/\Below w.heap.size w f:=by
 refine(E7 w v l b i d m).mono ?_;rintro e f ⟨k,g⟩;rw[h] at g;obtain⟨c,n,j⟩:=g;exact⟨c,n,j,k⟩
def eY(o:Option (List zj))(w:World)(e:Ending)(a:World):Prop:=
 Below w.heap.size w a/\match o with
  |none=>e=.returned (.tuple #[.slice none 0 0,.bool false])
  |some b=>∃v,e=.returned (.tuple #[v,.bool true])/\PB w.heap.size a v b
theorem DW{w a:World}(h:Hid (o=none))(c:Below w.heap.size w a):eY o w (.returned (.tuple #[.slice none 0 0,.bool false])) a:=by
 have b:o=none:=h;subst b;exact⟨c,rfl⟩
theorem Fn{w b:World}{v:Value}{a:List zj}(h:Hid (o=some a))(d:Below w.heap.size w b)(e:PB w.heap.size b v a):eY o w (.returned (.tuple #[v,.bool true])) b:=by
 have c:o=some a:=h;subst c;exact⟨d,v,rfl,e⟩
theorem B5(w:World)(v:Value)(l:List ByteArray)(Y:SV w v l)(aa:∀y∈l,0<y.size)(hl:l.length<=500):
  Calls prog 153 #[v] w fun e w'=>eY (yD l (l.length+1) 0 0 0) w e w':=by
 obtain⟨i0,hi,af,ae,ag⟩:=info_parts OR;obtain⟨i1,M,_,_,_⟩:=info_parts O4;obtain⟨ao,ax,rfl⟩:=Y.qw;go_enter func153,ntmps153;go_wp2;go_loopw [4,5,6,7] (fun v4 v5 v6 v7 wr=>∃(g:List zj) (f k m:Nat) (d:Int) (T:List Value),v5=.int .i64 f/\v6=.int .i64 d/\v7=.int .i64 k/\f<=k/\k<=l.length+1/\m+k=l.length+1/\-500<=d+(k:Int)/\d<=k/\-(k:Int)<=d/\g.length<=k/\(k=l.length+1∨f<=l.length) ∧
   Below w.heap.size w wr/\wr.ownsRow w.heap.size 90 3 v4 g.length T/\uA w.heap.size wr g T/\Hid (yD l (l.length+1) 0 0 0=(yD l m f d k).map (g++·))) (fun _ _ _ i _=>l.length+1-(intOf i).toNat)
 case atStart=>exact⟨[],0,0,l.length+1,0,[],rfl,rfl,rfl,zh _,by omega,by omega,by omega,by omega,by omega,by simp,ze (by omega),zo _ _,yK _ _ _ _,rfl,(by simp[Hid])⟩
 case round=>
  obtain⟨g,f,k,m,d,T,rfl,rfl,rfl,ar,an,ap,aw,av,au,al,aq,h,n,t,H⟩:=hrel;have ak:=h.size;by_cases ay:k<=l.length
  ·obtain⟨m,rfl⟩:∃m',m=m'+1:=⟨m-1,by omega⟩;by_cases N:k<l.length
   ·obtain⟨b,o,rfl,ab,ad⟩:=Y.cell k N;have aj:=zl h ab ad;have am:b<wr.heap.size:=by omega
    rw[xt N] at aj;clear ad;have c:yD l (m+1) f d k=(if ((gB l k).toList == [40]) then yD l m f (d+1) (k+1) else if ((gB l k).toList == [41]) then yD l m f (d-1) (k+1) else if ((gB l k).toList == [44])=false∨0<d then yD l m f d (k+1) else match jp ((l.drop f).take (k-f)) false with|none=>none|some a=>(yD l m (k+1) d (k+1)).map (a::·)):=by rw[yD,zb N];rfl
    cases A:((gB l k).toList == [40]) with
    |true=>
     obtain⟨B,I⟩:=s40 A;have J:Hid (yD l (l.length+1) 0 0 0=(yD l m f (d+1) (k+1)).map (g++·)):=by rw[Hid,H.out,c,A];rfl
     clear H c;generalize gB l k=x at *;go_wp2;go_roundw
     case rel=>exact⟨g,f,k+1,m,d+1,T,rfl,rfl,by go_num,by omega,by omega,by omega,by omega,by omega,by omega,by omega,by omega,h,n,t,J⟩
     case measure=>simp[intOf];omega
    |false=>
     cases B:((gB l k).toList == [41]) with
     |true=>
      obtain⟨_,I⟩:=s41 B;have J:Hid (yD l (l.length+1) 0 0 0=(yD l m f (d-1) (k+1)).map (g++·)):=by rw[Hid,H.out,c,A,B];rfl
      clear H c;generalize gB l k=x at *;go_wp2;go_roundw
      case rel=>exact⟨g,f,k+1,m,d-1,T,rfl,rfl,by go_num,by omega,by omega,by omega,by omega,by omega,by omega,by omega,by omega,h,n,t,J⟩
      case measure=>simp[intOf];omega
     |false=>
      cases I:((gB l k).toList == [44]) with
      |false=>
       have J:Hid (yD l (l.length+1) 0 0 0=(yD l m f d (k+1)).map (g++·)):=by rw[Hid,H.out,c,A,B,I];simp
       clear H c;generalize gB l k=x at *;go_wp2;go_roundw
       case rel=>exact⟨g,f,k+1,m,d,T,rfl,rfl,by go_num,by omega,by omega,by omega,by omega,by omega,by omega,by omega,by omega,h,n,t,J⟩
       case measure=>simp[intOf];omega
      |true=>
       by_cases ai:0<d
       ·have J:Hid (yD l (l.length+1) 0 0 0=(yD l m f d (k+1)).map (g++·)):=by rw[Hid,H.out,c,A,B,I];simp[ai]
        clear H c;generalize gB l k=x at *;go_wp2;go_roundw
        case rel=>exact⟨g,f,k+1,m,d,T,rfl,rfl,by go_num,by omega,by omega,by omega,by omega,by omega,by omega,by omega,by omega,h,n,t,J⟩
        case measure=>simp[intOf];omega
       ·rw[A,B,I,za (by simp),za (by simp),za (by simp;omega)] at c;generalize gB l k=x at *;have G:Hid (∀y∈(l.drop f).take (k-f),0<y.size):=fun y hy=>aa y (g4 (fD hy));cases z:jp ((l.drop f).take (k-f)) false with
        |none=>
         have Q:=OY z;have HF:Hid (yD l (l.length+1) 0 0 0=none):=by rw[Hid,H.out,c,z];rfl
         clear H c z;go_wp2_with (first|(refine qN _ w rfl (.tmp 58) 30 9 (some (.tmp 59)) (some (.tmp 60)) rfl underlying30 i1 M OC _ l rfl Y f k (ze rfl) (ze rfl) (by omega) (by omega) (k-f) rfl ?_;intro O C u)|(go_at_call 152;refine(ig _ _ ((l.drop f).take (k-f)) false (by exact u.below h) G.out (by simp;omega) Q).mono ?_;rintro e w1 ⟨b1,p1,ah,n1,ac,rfl,j⟩;have p:=Pc h j;have D:=p.size))
         go_ret2
         exact DW HF (by go_grown)
        |some a=>
         have Q:=OY z;have J:Hid (yD l (l.length+1) 0 0 0=(yD l m (k+1) d (k+1)).map ((g++[a])++·)):=by rw[Hid,H.out,c,z];simp only[];rw[rg]
         clear H c z;go_wp2_with (first|(refine qN _ w rfl (.tmp 58) 30 9 (some (.tmp 59)) (some (.tmp 60)) rfl underlying30 i1 M OC _ l rfl Y f k (ze rfl) (ze rfl) (by omega) (by omega) (k-f) rfl ?_;intro O C u)|(go_at_call 152;refine(ir _ _ ((l.drop f).take (k-f)) false a (by exact u.below h) G.out (by simp;omega) Q).mono ?_;rintro e w1 ⟨va,rfl,r,j⟩;obtain⟨P,L,rfl⟩:=r.qw;have p:=Pc h j;have D:=p.size;have s:=zE n j;have K:=t.mono fun _ _ q=>q.below j)|(at_builtin;refine jY w1 _ _ _ rfl (.tmp 67) (.tmp 69) 91 rfl w.heap.size 90 i0 _ 3 48 underlying91 hi af ae ag rfl (by decide) _ _ _ rfl s zO _ _ rfl (by simp) rfl (by simp[Value.oneCell']) (by omega) (by omega) D ?_;intro v' w2 U W S V F Z;clear S V;have R:Pg w.heap.size w2 (Value.slice P a.args.length L) a.args:=yr (kM s (by decide) r F) h.size;have E:=K.mono fun _ _ q=>kM s (by decide) q F))
         go_roundw
         case rel=>exact⟨g++[a],k+1,k+1,m,d,_,by go_num,rfl,by go_num,zh _,by omega,by omega,by omega,by omega,by omega,by simp;omega,by omega,p.trans W,by rw[yz];exact U,E.snoc R,J⟩
         case measure=>simp[intOf];omega
   ·have c:yD l (m+1) f d k=(match jp ((l.drop f).take (k-f)) false with|none=>none|some a=>some [a]):=by rw[yD,za N];rfl
    have X:m=0:=by omega
    have G:Hid (∀y∈(l.drop f).take (k-f),0<y.size):=fun y hy=>aa y (g4 (fD hy));cases z:jp ((l.drop f).take (k-f)) false with
    |none=>
     have Q:=OY z;have HF:Hid (yD l (l.length+1) 0 0 0=none):=by rw[Hid,H.out,c,z];rfl
     clear H c z;go_wp2_with (first|(refine qN _ w rfl (.tmp 58) 30 9 (some (.tmp 59)) (some (.tmp 60)) rfl underlying30 i1 M OC _ l rfl Y f k (ze rfl) (ze rfl) (by omega) (by omega) (k-f) rfl ?_;intro O C u)|(go_at_call 152;refine(ig _ _ ((l.drop f).take (k-f)) false (by exact u.below h) G.out (by simp;omega) Q).mono ?_;rintro e w1 ⟨b1,p1,ah,n1,ac,rfl,j⟩;have p:=Pc h j;have D:=p.size))
     go_ret2
     exact DW HF (by go_grown)
    |some a=>
     have Q:=OY z;have J:Hid (yD l (l.length+1) 0 0 0=(yD l m (k+1) d (k+1)).map ((g++[a])++·)):=by rw[Hid,H.out,c,z,X];simp[yD]
     clear H c z;go_wp2_with (first|(refine qN _ w rfl (.tmp 58) 30 9 (some (.tmp 59)) (some (.tmp 60)) rfl underlying30 i1 M OC _ l rfl Y f k (ze rfl) (ze rfl) (by omega) (by omega) (k-f) rfl ?_;intro O C u)|(go_at_call 152;refine(ir _ _ ((l.drop f).take (k-f)) false a (by exact u.below h) G.out (by simp;omega) Q).mono ?_;rintro e w1 ⟨va,rfl,r,j⟩;obtain⟨P,L,rfl⟩:=r.qw;have p:=Pc h j;have D:=p.size;have s:=zE n j;have K:=t.mono fun _ _ q=>q.below j)|(at_builtin;refine jY w1 _ _ _ rfl (.tmp 67) (.tmp 69) 91 rfl w.heap.size 90 i0 _ 3 48 underlying91 hi af ae ag rfl (by decide) _ _ _ rfl s zO _ _ rfl (by simp) rfl (by simp[Value.oneCell']) (by omega) (by omega) D ?_;intro v' w2 U W S V F Z;clear S V;have R:Pg w.heap.size w2 (Value.slice P a.args.length L) a.args:=yr (kM s (by decide) r F) h.size;have E:=K.mono fun _ _ q=>kM s (by decide) q F))
     go_roundw
     case rel=>exact⟨g++[a],k+1,k+1,m,d,_,by go_num,rfl,by go_num,zh _,by omega,by omega,by omega,by omega,by omega,by simp;omega,by omega,p.trans W,by rw[yz];exact U,E.snoc R,J⟩
     case measure=>simp[intOf];omega
  ·have X:m=0:=by omega
   have HF:Hid (yD l (l.length+1) 0 0 0=some g):=by rw[Hid,H.out,X];simp[yD]
   clear H;go_wp2;go_ret2
   exact Fn HF h ⟨_,n,t⟩
end
end Go.Proofs.YteampbddflhngaaGreat
