import Derived.Test.YteampbddflhngaaGreatV26
import Derived.Test.YteampbddflhngaaGreatV27
namespace Go.Proofs.YteampbddflhngaaGreat
set_option linter.all false
set_option maxRecDepth 100000
set_option maxHeartbeats 4000000
open Go.Proofs.Tryz Go.RowKit
section
variable {lo:Nat}
def qQ(a:List Nat)(x:Int×Nat):List Nat:=if 0<=x.1/\x.1<5 then a.set x.1.toNat x.2 else a
def xb(a:List Int):List Nat:=a.zipIdx.foldl qQ [0,1,2,3,4]
theorem MS(a:List Nat)(x:Int×Nat):(qQ a x).length=a.length:=by unfold qQ;split<;>simp
theorem ij(b:List Int):(xb b).length=5:=by
 have:∀(l:List (Int×Nat)) (a:List Nat),(l.foldl qQ a).length=a.length:=by
  intro l;induction l with
  |nil=>intro a;rfl
  |cons x l c=>intro a;rw[uv,c,MS]
 exact this _ _
theorem Nk{a:List Int}{k:Nat}(b:k<a.length):(a.take (k+1)).zipIdx.foldl qQ [0,1,2,3,4]=qQ ((a.take k).zipIdx.foldl qQ [0,1,2,3,4]) (a[k],k):=by
 rw[yM b,List.zipIdx_append,ju];simp only[List.zipIdx_singleton,qa,uL,uv,List.foldl_nil];rw[gP (by omega)]
def jO(a:Value)(b:List Nat):List Value:=a::b.map PF
theorem BD(a:Value)(b:List Nat)(k x:Nat):(jO a b).toArray.setIfInBounds (1+k) (.int .i64 x)=(jO a (b.set k x)).toArray:=by
 rw[Nat.add_comm];simp[jO,List.map_set,PF]
def fV(k:Nat):List Nat:=(List.range 5).map fun i=>if i<k then i else 0
theorem Md(k:Nat)(a:k<5):(fV k).set k k=fV (k+1):=by
 obtain rfl|rfl|rfl|rfl|rfl:k=0∨k=1∨k=2∨k=3∨k=4:=by omega
 all_goals rfl
theorem AX{w:World}{a:Nat}{c:Value}{b:List Nat}(d:b.length=5)(h:OZ w a (jO c b).toArray 257):a<w.heap.size/\(∀o,w.frozen? ⟨a,o,none⟩=false)/\∀k,k<5->∃x:Nat,w.cell? ⟨a,1+k,none⟩=some (.int .i64 x):=by
 obtain⟨e,g⟩:=h.rules;refine⟨h.lt,g,fun k f=>⟨b[k]'(by omega),?_⟩⟩;rw[e,Nat.add_comm];simp[jO,d,f,PF]
def EZ(w:World)(vs:List ByteArray)(c:List Nat)(e:Ending)(b:World):Prop:=∃a,e=.returned (.agg (jO a c).toArray)/\Pg w.heap.size b a vs/\Below w.heap.size w b
theorem NM(w:World)(c:zc)(va vb ov:Value)(o:Option (List Int))(Z:Pg lo w va c.head.args)(hb:PB lo w vb c.body)(hl:c.head.args.length+xi c.body<=1000)(J:c.body.length<=1000)(ho:jR w ov o)(ah:(o.getD []).length<=1000):
  Calls prog 158 #[.agg #[.bool c.head.neg,.string c.head.pred,va,vb],ov] w fun e w'=>EZ w (zy c) (xb (o.getD [])) e w':=by
 obtain⟨ao,ac,rfl⟩:=Z.qw;obtain⟨U,H,rfl⟩:=hb.qw;obtain⟨af,ae,rfl⟩:=ho.qw;have HP:=OY fun W hW=>oy W c _ _ (Z.below hW) (hb.below hW) hl J;have HO:=OY ho;clear Z hb hl J ho;go_enter func158,ntmps158;go_upto_region 2 with (first|(go_at_call 148;refine(HP.out _ (by exact(by go_grown))).mono ?_;rintro e u ⟨D,rfl,z,F⟩;obtain⟨l,b,rfl⟩:=zq z))
 have E:Below w.heap.size w u:=zM (by go_grown) F (zh _);have ak:=E.size;have O:Pg w.heap.size u (.slice l (zy c).length b) (zy c):=yr z (by simp;omega);have A:=(OZ.new (w.alloc (.cells #[.bool c.head.neg,.string c.head.pred,.slice ao c.head.args.length ac,.slice U c.body.length H] 171)) #[.slice none 0 0,.int .i64 0,.int .i64 0,.int .i64 0,.int .i64 0,.int .i64 0] 257).below F;rw[World.size_alloc] at A;have aj:=A.lt;have a:=OZ.new u (jO (.slice l (zy c).length b) (fV 0)).toArray 257;have t:Below u.heap.size u (u.alloc (.cells (jO (.slice l (zy c).length b) (fV 0)).toArray 257)):=(by go_grown);have j:=O.below t;have h:=A.below t;have d:=Pc E t;rw[show(jO (.slice l (zy c).length b) (fV 0)).toArray=#[.slice l (zy c).length b,.int .i64 0,.int .i64 0,.int .i64 0,.int .i64 0,.int .i64 0] from rfl] at j h d;rw[show(u.alloc (.cells (jO (.slice l (zy c).length b) (fV 0)).toArray 257))=(u.alloc (.cells #[.slice l (zy c).length b,.int .i64 0,.int .i64 0,.int .i64 0,.int .i64 0,.int .i64 0] 257)) from rfl] at a;clear z F A O HP t;generalize I:zy c=vs at *;have Q:=OY I;clear I;generalize B:Value.slice l vs.length b=D at *;generalize u.alloc (.cells #[D,.int .i64 0,.int .i64 0,.int .i64 0,.int .i64 0,.int .i64 0] 257)=w2 at *;generalize u.heap.size=sb at *;clear E u;have aa:=OY B;clear B;go_wp2;go_loopw [12] (fun X wr=>∃k:Nat,k<=5/\X=.int .i64 k/\OZ wr sb (jO D (fV k)).toArray 257/\OZ wr (w.heap.size+1) #[.slice none 0 0,.int .i64 0,.int .i64 0,.int .i64 0,.int .i64 0,.int .i64 0] 257/\Pg w.heap.size wr D vs/\Below w.heap.size w wr) (fun i _=>5-(intOf i).toNat)
 case atStart=>exact⟨0,by omega,rfl,a,h,j,d⟩
 case round=>
  clear a h j d;obtain⟨k,hk,rfl,a,h,j,d⟩:=hrel;have L:=d.size;by_cases r:k<5
  ·have ad:(k:Int)<5:=by omega
   obtain⟨P,M,s⟩:=AX (by simp[fV]) a;obtain⟨x,hx⟩:=s k r;have m:=a.set (1+k) (.int .i64 k);rw[BD,Md k r] at m;clear s;go_wp2;go_roundw
   case rel=>exact⟨k+1,by omega,by go_num,m,h.set_ne (by omega) _ _,xQ j ((Pm.refl _ _).setCell _ _) a (by decide),d.setCell (by simp;omega) _⟩
   case measure=>simp[intOf];omega
  ·obtain rfl:k=5:=by omega
   clear hk r;have HF:Hid (fV 5=((o.getD []).take 0).zipIdx.foldl qQ [0,1,2,3,4]):=rfl;rw[HF.out] at a;clear HF;go_wp2;go_loopw [22] (fun R wr=>∃k:Nat,k<=(o.getD []).length/\R=.int .i64 k/\OZ wr sb (jO D (((o.getD []).take k).zipIdx.foldl qQ [0,1,2,3,4])).toArray 257/\OZ wr (w.heap.size+1) #[.slice none 0 0,.int .i64 0,.int .i64 0,.int .i64 0,.int .i64 0,.int .i64 0] 257/\Pg w.heap.size wr D vs/\Below w.heap.size w wr) (fun i _=>(o.getD []).length-(intOf i).toNat)
   case atStart=>exact⟨0,by omega,rfl,a,h,j,d⟩
   case round=>
    clear a h j d L;obtain⟨k,hk,rfl,a,h,j,d⟩:=hrel;have L:=d.size;have K:(((o.getD []).take k).zipIdx.foldl qQ [0,1,2,3,4]).length=5:=ij _;by_cases r:k<(o.getD []).length
    ·obtain⟨g,f,rfl,hg,hc⟩:=HO.out.cell k r;have ag:=zl d hg hc;have t:g<wr.heap.size:=by omega
     have C:=OY (Nk r);clear hc;generalize (o.getD [])[k]=x at *;generalize ((o.getD []).take k).zipIdx.foldl qQ [0,1,2,3,4]=S at *;by_cases p:0<=x/\x<5
     ·obtain⟨n,rfl⟩:=Int.eq_ofNat_of_zero_le p.1;have am:=p.2;have hn:n<5:=by omega
      obtain⟨P,M,s⟩:=AX K a;obtain⟨y,hy⟩:=s n hn;have m:=a.set (1+n) (.int .i64 k);rw[BD] at m;have q:Hid (((o.getD []).take (k+1)).zipIdx.foldl qQ [0,1,2,3,4]=S.set n k):=by rw[Hid,C.out,qQ,zb p];rfl
      clear s C p;go_wp2;go_roundw
      case rel=>exact⟨k+1,by omega,by go_num,by rw[q.out];exact m,h.set_ne (by omega) _ _,xQ j ((Pm.refl _ _).setCell _ _) a (by decide),d.setCell (by simp;omega) _⟩
      case measure=>simp[intOf];omega
     ·have q:Hid (((o.getD []).take (k+1)).zipIdx.foldl qQ [0,1,2,3,4]=S):=by rw[Hid,C.out,qQ,za p]
      clear C;rcases Int.lt_or_le x 0 with h0|h0
      ·clear p;go_wp2;exact⟨⟨_,_,_,⟨k+1,by omega,by go_num,by rw[q.out];exact a⟩,rfl,rfl,rfl⟩,by simp[intOf];omega⟩
      ·have h5:5<=x:=by omega
       clear p;go_wp2;go_roundw
       case rel=>exact⟨k+1,by omega,by go_num,by rw[q.out];exact a,h,j,d⟩
       case measure=>simp[intOf];omega
    ·have G:Hid (((o.getD []).take k).zipIdx.foldl qQ [0,1,2,3,4]=xb (o.getD [])):=by rw[Hid,xk (by omega)];rfl
     rw[G.out] at a;have H5:=ij (o.getD []);generalize N:xb (o.getD [])=S at *;obtain⟨T,p1,p2,V,p4,rfl⟩:=five H5;have Y:=OY N;clear N;rw[show(jO D [T,p1,p2,V,p4]).toArray=#[D,.int .i64 T,.int .i64 p1,.int .i64 p2,.int .i64 V,.int .i64 p4] from rfl] at a;obtain⟨s,M,P⟩:=a.boxed;obtain⟨ab,al,ai⟩:=h.boxed;have B:=aa.out;subst B;clear K H5 G;go_wp2
     (try simp only[Exit.inBlock,Exit.then])
     refine zJ (v:=.agg (jO (.slice l vs.length b) [T,p1,p2,V,p4]).toArray) (by simp[results,results158,go_sem,ab,jO,PF]) rfl ⟨_,by rw[Y.out],?_,?_⟩
     ·rw[Q.out];exact xQ j (by repeat'(first|with_reducible(first|apply xR|assumption|apply xN|apply xA|apply xD|apply xS|apply xT)|go_size)) h (by decide)
     ·exact(((((d.setCell (by simp) _).setCell (by simp) _).setCell (by simp) _).setCell (by simp) _).setCell (by simp) _).setCell (by simp) _
def vA(a:Option (List (Option (List Int))))(k:Nat):Option (List Int):=(a.getD []).getD k none
theorem MQ(w:World)(d:Value)(a:Option (List (Option (List Int))))(k:Nat)(h:dW w d a)(i:(a.getD []).length<=2000000):
  Calls prog 116 #[d,.int .i64 k] w fun e n=>∃u,e=.returned u/\jR w u (vA a k)/\n=w:=by
 obtain⟨o,m,rfl⟩:=h.qw;by_cases c:k<(a.getD []).length
 ·obtain⟨g,f,u,rfl,p,q,l⟩:=h.cell k c;have b:Hid (vA a k=(a.getD [])[k]):=by simp[Hid,vA,c]
  have j:=OY l;go_enter func116,ntmps116;go_wp2;go_ret;exact⟨_,rfl,by rw[b.out];exact j.out,rfl⟩
 ·have b:Hid (vA a k=none):=by simp[Hid,vA,List.getD_eq_getElem?_getD,List.getElem?_eq_none (Nat.not_lt.1 c)]
  go_enter func116,ntmps116;go_wp2;go_ret;exact⟨_,rfl,by rw[b.out];rfl,rfl⟩
def vF(t:List zg)(ns:List ByteArray)(c:zc):jt:=⟨zF t c.head.pred,zG (zK t ns [] [0,0,0,0,0] c.head) [0,0,0,0,0]⟩
def DT(f:jt):Value:=.agg #[.int .i64 f.pred,.int .i64 (f.row.getD 0 0:Nat),.int .i64 (f.row.getD 1 0:Nat),.int .i64 (f.row.getD 2 0:Nat)]
theorem Np{B:Nat}(w:World)(K tb o cb:Nat)(t:List zg)(ns:List ByteArray)(c:zc)(va O:Value)(h:mh lo w K tb o cb t ns)(J:Pg B w va c.head.args)(hb:PB B w O c.body)(N:c.head.args.length<=1000):
  Calls prog 118 #[.pointer (some ⟨K,0,none⟩),.agg #[.bool c.head.neg,.string c.head.pred,va,O]] w fun e n=>e=.returned (DT (vF t ns c))/\Below w.heap.size w n:=by
 obtain⟨T,s,rfl⟩:=J.qw;obtain⟨D,g,rfl⟩:=hb.qw;have R:=OY fun W Q (hW:Below w.heap.size w W) (b:kQ 0 W Q [] [0,0,0,0,0])=>Al W K tb o cb Q t ns [] [0,0,0,0,0] c.head _ (h.below hW) b (by simp) (by simp) (J.below hW) N;have HR:Hid (∀W v (Y:Nat),yh Y W v (zK t ns [] [0,0,0,0,0] c.head).qg->Calls prog 161 #[.agg #[.int .i64 (zF t c.head.pred:Nat),v],pO 0 0 0 0 0] W fun r n=>r=.returned (.agg #[.int .i64 (((vF t ns c).row.getD 0 0:Nat):Int),.int .i64 (((vF t ns c).row.getD 1 0:Nat):Int),.int .i64 (((vF t ns c).row.getD 2 0:Nat):Int)])/\Below W.heap.size W n):=fun W v Y F=>wD W v (zF t c.head.pred) _ 0 0 0 0 0 F;have HE:Hid (DT (vF t ns c)=.agg #[.int .i64 (zF t c.head.pred:Nat),.int .i64 ((vF t ns c).row.getD 0 0:Nat),.int .i64 ((vF t ns c).row.getD 1 0:Nat),.int .i64 ((vF t ns c).row.getD 2 0:Nat)]):=rfl;clear h J hb;have b:=OZ.new ((w.alloc (.cells #[.bool c.head.neg,.string c.head.pred,.slice T c.head.args.length s,.slice D c.body.length g] 171)).alloc (.cells #[.int .i64 0,.int .i64 0,.int .i64 0,.int .i64 0] 210)) #[.slice none 0 0,.int .i64 0,.int .i64 0,.int .i64 0,.int .i64 0,.int .i64 0] 257;have j:=(OZ.new (w.alloc (.cells #[.bool c.head.neg,.string c.head.pred,.slice T c.head.args.length s,.slice D c.body.length g] 171)) #[.int .i64 0,.int .i64 0,.int .i64 0,.int .i64 0] 210).below ((zo _ _).alloc (zh _) (.cells #[.slice none 0 0,.int .i64 0,.int .i64 0,.int .i64 0,.int .i64 0,.int .i64 0] 257));simp only[World.size_alloc] at b j;generalize (vF t ns c).row.getD 0 0=x at *;generalize (vF t ns c).row.getD 1 0=y at *;generalize (vF t ns c).row.getD 2 0=z at *;generalize (zK t ns [] [0,0,0,0,0] c.head).qg=q at *;generalize zF t c.head.pred=u at *;go_enter func118,ntmps118;go_upto_region 3 with (first|(go_at_call 160;refine(R.out _ _ (by exact(by go_grown)) (by exact⟨_,0,0,0,0,0,rfl,b,Pg.nil _⟩)).mono ?_;rintro e i ⟨tv,rfl,F,l⟩;obtain⟨d,a,rfl⟩:=F.qw))
 have C:Below w.heap.size w i:=zM (by go_grown) l (zh _);have m:=j.below l;clear b j R;have ac:=m.lt;have f:Below i.heap.size i (i.alloc (.cells #[.int .i64 u,.slice d q.length a] 204)):=(by go_grown);have p:=OZ.new i #[.int .i64 u,.slice d q.length a] 204;have I:=m.below f;have G:Hid (yh _ _ _ q):=F.below f;have A:=Pc C f;clear F m l f;generalize i.alloc (.cells #[.int .i64 u,.slice d q.length a] 204)=V at *;generalize i.heap.size=lb at *;clear C i;obtain⟨Z,S,ab⟩:=p.boxed;have ad:=A.size;go_region_held3 (fun n=>n.cell? ⟨lb,0,none⟩=some (.int .i64 u)/\n.cell? ⟨lb,1,none⟩=some (.slice d q.length a)) (first|go_keep|(go_simp;done)) (first|(go_at_call 161;refine(HR.out _ _ _ (by exact G.out.below (by go_grown))).mono ?_;rintro e w3 ⟨rfl,L⟩;have k:Below V.heap.size V w3:=(zM (by go_grown) L (zh _));have M:=p.below k;have H:=I.below k;obtain⟨U,aa⟩:=M.rules;obtain⟨E,P,X⟩:=H.boxed))
 all_goals
  go_wp2
  (try simp only[Exit.inBlock,Exit.then])
  exact zJ (v:=.agg #[.int .i64 u,.int .i64 x,.int .i64 y,.int .i64 z]) (by simp[results,results118,go_sem,E]) rfl ⟨by rw[HE.out],((((Pc A k).setCell (by simp) _).setCell (by simp) _).setCell (by simp) _).setCell (by simp) _⟩
end
end Go.Proofs.YteampbddflhngaaGreat
