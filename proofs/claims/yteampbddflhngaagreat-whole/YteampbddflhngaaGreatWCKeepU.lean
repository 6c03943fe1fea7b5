import Derived.Test.YteampbddflhngaaGreatWCWho3
import Derived.Test.YteampbddflhngaaGreatWCPv2
import Derived.Test.YteampbddflhngaaGreatW41

namespace Go.Proofs.YteampbddflhngaaGreat
set_option maxRecDepth 100000
set_option maxHeartbeats 8000000
open Go.RowKit
variable {o1 o2:Option Addr}{wo:Option z99}
def ya9(fs:List zg4)(h:zbu)(body rest:List zbu)(l:zbu)(B:z99)(last:Nat)(st:StW)(f:zg4):StW:=if f.1=l.pred then(match yab B l.args f.2.1 with|none=>st|some B'=>yaa fs h body rest B' (max last f.2.2) st) else st
theorem yb8{fs:List zg4}{h:zbu}{body rest:List zbu}{l:zbu}{B:z99}{last:Nat}{st:StW}(hn:l.neg=false):yaa fs h body (l::rest) B last st=fs.foldl (ya9 fs h body rest l B last) st:=by
 unfold yaa
 rw[if_neg (by simp[hn])]
 rfl
theorem ybo{α β:Type}(f:β->α->β)(l:List α)(b:β){i:Nat}(hi:i < l.length):(l.take (i+1)).foldl f b=f ((l.take i).foldl f b) l[i]:=by
 rw[uae hi,ubj]
 rfl
theorem ycj(w0:World)(lo g xb hb:Nat)(pv fv:Value)(ls:List zbu)(h:zbu)(body:List zbu)(fs:List zg4)(hl:ls.length<=30)(_har:∀ l∈ls,l.args.length<=3/\∀ a∈l.args,0 < a.size)(_hfl:fs.length<=300)(_hfa:∀ f∈fs,∀ l∈ls,f.1=l.pred->f.2.1.length=l.args.length)(l:zbu)(rest:List zbu)(k:Nat)(w:World)(vv lv:Value)(B:z99)(last:Nat)(st:StW)(hk1:1<=k)(hkl:k < ls.length)(hlk:ls[k]=l)(_hmem:l∈ls)(hBl:B.length<=3 * k)(hI:yac w0 w lo g xb hb pv fv vv lv ls fs B st)(HREC:Hid (∀ W vv' lv' (B':z99) (last':Nat) (st':StW),B'.length<=3 * (k+1)->yac w0 W lo g xb hb pv fv vv' lv' ls fs B' st'->Calls Tryz.prog 52 #[.pointer (some ⟨xb,0,none⟩),.slice (some ⟨g,0,none⟩) ls.length ls.length,.int .i64 ((k:Int)+1),.agg #[vv',lv'],.int .i64 last'] W fun e w'=>e=.returned (.tuple #[])/\Hid (yam w' xb hb pv fv (yaa fs h body rest B' last' st'))/\Hid (zas [xb,hb] W w')))(hn:l.neg=true) :
  Calls Tryz.prog 52 #[.pointer (some ⟨xb,0,none⟩),.slice (some ⟨g,0,none⟩) ls.length ls.length,.int .i64 k,.agg #[vv,lv],.int .i64 last] w fun e w'=>e=.returned (.tuple #[])/\Hid (yam w' xb hb pv fv (yaa fs h body (l::rest) B last st))/\Hid (zas [xb,hb] w w'):=by
 obtain⟨ao,cap,rfl,hcells⟩:=hI.facts
 have HI:Hid (yac w0 w lo g xb hb pv (.slice ao fs.length cap) vv lv ls fs B st):=hI
 have hlw:=hI.low
 have hlx0:=hI.lx
 have hlh0:=hI.lh
 have HLT:Hid (∀ W st',yac w0 W lo g xb hb pv (.slice ao fs.length cap) vv lv ls fs B st'->g < W.heap.size/\W.cell? ⟨g,k * 3,none⟩=some (.bool l.neg)/\W.cell? ⟨g,k * 3+1,none⟩=some (.string l.pred)/\∃ ga,W.cell? ⟨g,k * 3+2,none⟩=some (.slice (some ⟨ga,0,none⟩) l.args.length l.args.length)/\SIn lo W (.slice (some ⟨ga,0,none⟩) l.args.length l.args.length) l.args):=fun W st' hI'=>by
  obtain⟨_,q1,q2⟩:=hI'.lits
  have:=q2 k hkl
  rw[hlk] at this
  exact⟨q1,this⟩
 have HRES:Hid (yaa fs h body (l::rest) B last st=yaa fs h body rest B last st):=by
  unfold Hid
  rw[yaa,if_pos hn]
 rw[hn] at HLT
 generalize yaa fs h body (l::rest) B last st=res at *
 clear hcells hI _har _hfa _hmem
 obtain⟨hg,c0,_⟩:=HLT.out w st HI.out
 go_enter Tryz.func52,Tryz.ntmps52
 go_upto_region 14 with fail
 have HB0:Hid (Below w.heap.size w (w.alloc (.cells #[vv,lv] 111))):=(Below.refl _ _).alloc (uaa _) _
 have hbx:=Box.new w #[vv,lv] 111
 have b0:=hbx.rules.1 0
 have b1:=hbx.rules.1 1
 have hlb:=hbx.lt
 have c0':=(HB0.out.cell (p:=⟨g,k * 3,none⟩) hg).trans c0
 have hg':=ual hg HB0.out.size
 clear c0 hbx
 generalize hwA:w.alloc (.cells #[vv,lv] 111)=wA at *
 clear hwA
 go_wp2_with (first|(go_at_call 52;refine(HREC.out wA vv lv B last st (by omega) (HI.out.below HB0.out)).mono ?_;rintro e w1 ⟨rfl,HD1,HS1⟩))
 (try simp only[Exit.inBlock,Exit.then])
 refine bodyPost_ret (results_none rfl _ _ _) rfl ?_
 exact⟨rfl,by rw[Hid,HRES.out];exact HD1.out,(zas.of HB0.out).trans HS1.out⟩
def yc5(w0 w:World)(lo m:Nat)(wo:Option z99)(s:Value):Prop:=∃(xq n1 c1:Nat) (o1:Option Addr) (n2 c2:Nat) (o2:Option Addr),s=.pointer (some ⟨xq,0,none⟩)/\Hid (∀ B',wo=some B'->SIn lo w (.slice o1 n1 c1) (yak B')/\SIn lo w (.slice o2 n2 c2) (yan B')/\B'.length<=m)/\Hid (Box w xq #[.slice o1 n1 c1,.slice o2 n2 c2] 111)/\Hid (Below w0.heap.size w0 w)
theorem yc5.one{w0 w5:World}{lo m n1 c1 n2 c2:Nat}(hb:Below w0.heap.size w0 w5)(h:∀ B',wo=some B'->SIn lo w5 (.slice o1 n1 c1) (yak B')/\SIn lo w5 (.slice o2 n2 c2) (yan B')/\B'.length<=m):yc5 w0 (w5.alloc (.cells #[.slice o1 n1 c1,.slice o2 n2 c2] 111)) lo m wo (.pointer (some ⟨w5.heap.size,0,none⟩)):=by
 have hu:Below w5.heap.size w5 (w5.alloc (.cells #[.slice o1 n1 c1,.slice o2 n2 c2] 111)):=(Below.refl _ _).alloc (uaa _) _
 exact⟨_,n1,c1,o1,n2,c2,o2,rfl,fun B' e=>⟨(h B' e).1.below hu,(h B' e).2.1.below hu,(h B' e).2.2⟩,Box.new w5 _ _,zae hb hu (uaa _)⟩
theorem yc5.two{w0 w5:World}{lo m n1 c1 n2 c2 sb:Nat}{z0 z1:Value}(hsb:w0.heap.size<=sb)(hb:Below w0.heap.size w0 w5)(hx:Box w5 sb #[z0,z1] 111)(h:∀ B',wo=some B'->SIn lo w5 (.slice o1 n1 c1) (yak B')/\SIn lo w5 (.slice o2 n2 c2) (yan B')/\B'.length<=m):yc5 w0 ((w5.setCell ⟨sb,0,none⟩ (.slice o1 n1 c1)).setCell ⟨sb,1,none⟩ (.slice o2 n2 c2)) lo m wo (.pointer (some ⟨sb,0,none⟩)):=by
 have b1:=hx.set 0 (.slice o1 n1 c1)
 have b2:=b1.set 1 (.slice o2 n2 c2)
 have hs:∀ v l,SIn lo w5 v l->SIn lo ((w5.setCell ⟨sb,0,none⟩ (.slice o1 n1 c1)).setCell ⟨sb,1,none⟩ (.slice o2 n2 c2)) v l:=fun v l q=>zaj (zaj q (zas.set _ _ _ _) (OfT.box hx) (by decide)) (zas.set _ _ _ _) (OfT.box b1) (by decide)
 exact⟨sb,n1,c1,o1,n2,c2,o2,rfl,fun B' e=>⟨hs _ _ (h B' e).1,hs _ _ (h B' e).2.1,(h B' e).2.2⟩,show Box _ _ _ _ by simpa using b2,(hb.setCell hsb _).setCell hsb _⟩
theorem yck(w0:World)(lo g xb hb:Nat)(pv fv:Value)(ls:List zbu)(h:zbu)(body:List zbu)(fs:List zg4)(hl:ls.length<=30)(har:∀ l∈ls,l.args.length<=3/\∀ a∈l.args,0 < a.size)(hfl:fs.length<=300)(hfa:∀ f∈fs,∀ l∈ls,f.1=l.pred->f.2.1.length=l.args.length)(l:zbu)(rest:List zbu)(k:Nat)(w:World)(vv lv:Value)(B:z99)(last:Nat)(st:StW)(hk1:1<=k)(hkl:k < ls.length)(hlk:ls[k]=l)(hmem:l∈ls)(hBl:B.length<=3 * k)(hI:yac w0 w lo g xb hb pv fv vv lv ls fs B st)(HREC:Hid (∀ W vv' lv' (B':z99) (last':Nat) (st':StW),B'.length<=3 * (k+1)->yac w0 W lo g xb hb pv fv vv' lv' ls fs B' st'->Calls Tryz.prog 52 #[.pointer (some ⟨xb,0,none⟩),.slice (some ⟨g,0,none⟩) ls.length ls.length,.int .i64 ((k:Int)+1),.agg #[vv',lv'],.int .i64 last'] W fun e w'=>e=.returned (.tuple #[])/\Hid (yam w' xb hb pv fv (yaa fs h body rest B' last' st'))/\Hid (zas [xb,hb] W w')))(hn:l.neg=false) :
  Calls Tryz.prog 52 #[.pointer (some ⟨xb,0,none⟩),.slice (some ⟨g,0,none⟩) ls.length ls.length,.int .i64 k,.agg #[vv,lv],.int .i64 last] w fun e w'=>e=.returned (.tuple #[])/\Hid (yam w' xb hb pv fv (yaa fs h body (l::rest) B last st))/\Hid (zas [xb,hb] w w'):=by
 obtain⟨ao,cap,rfl,hcells⟩:=hI.facts
 have HI:Hid (yac w0 w lo g xb hb pv (.slice ao fs.length cap) vv lv ls fs B st):=hI
 have hlw:=hI.low
 have hlx0:=hI.lx
 have hlh0:=hI.lh
 have HLT:Hid (∀ W st',yac w0 W lo g xb hb pv (.slice ao fs.length cap) vv lv ls fs B st'->g < W.heap.size/\W.cell? ⟨g,k * 3,none⟩=some (.bool l.neg)/\W.cell? ⟨g,k * 3+1,none⟩=some (.string l.pred)/\∃ ga,W.cell? ⟨g,k * 3+2,none⟩=some (.slice (some ⟨ga,0,none⟩) l.args.length l.args.length)/\SIn lo W (.slice (some ⟨ga,0,none⟩) l.args.length l.args.length) l.args):=fun W st' hI'=>by
  obtain⟨_,q1,q2⟩:=hI'.lits
  have:=q2 k hkl
  rw[hlk] at this
  exact⟨q1,this⟩
 have hrule:=yb8 (fs:=fs) (h:=h) (body:=body) (rest:=rest) (B:=B) (last:=last) (st:=st) hn
 rw[hn] at HLT
 have HCF:Hid (∀ W st' i (hi:i < fs.length),yac w0 W lo g xb hb pv (.slice ao fs.length cap) vv lv ls fs B st'->∃ gf gi lo',ao=some ⟨gf,0,none⟩/\gf < W.heap.size/\W.cell? ⟨gf,i * 3,none⟩=some (.string fs[i].1)/\W.cell? ⟨gf,i * 3+1,none⟩=some (.slice (some ⟨gi,0,none⟩) fs[i].2.1.length fs[i].2.1.length)/\W.cell? ⟨gf,i * 3+2,none⟩=some (.int .i64 (fs[i].2.2:Nat))/\SIn lo' W (.slice (some ⟨gi,0,none⟩) fs[i].2.1.length fs[i].2.1.length) fs[i].2.1):=fun W st' i hi hI'=>by
  obtain⟨ao',cap',e,q⟩:=hI'.facts.below hI'.old
  cases e
  exact q i hi
 have HXC:Hid (∀ W st',yac w0 W lo g xb hb pv (.slice ao fs.length cap) vv lv ls fs B st'->W.cell? ⟨xb,1,none⟩=some (.slice ao fs.length cap)/\xb < W.heap.size):=fun W st' hI'=>⟨by rw[hI'.der.x.rules.1];rfl,hI'.der.x.lt⟩
 have HWITH:Hid (∀ W st' i (hi:i < fs.length) av rv lo2 lo3,fs[i].1=l.pred->yac w0 W lo g xb hb pv (.slice ao fs.length cap) vv lv ls fs B st'->SIn lo2 W av l.args->SIn lo3 W rv fs[i].2.1->Calls Tryz.prog 90 #[.agg #[vv,lv],av,rv] W fun e w'=>∃(n1 c1:Nat) (o1:Option Addr) (n2 c2:Nat) (o2:Option Addr),e=.returned (.tuple #[.agg #[.slice o1 n1 c1,.slice o2 n2 c2],.bool (yab B l.args fs[i].2.1).isSome])/\Hid (∀ B',yab B l.args fs[i].2.1=some B'->SIn W.heap.size w' (.slice o1 n1 c1) (yak B')/\SIn W.heap.size w' (.slice o2 n2 c2) (yan B')/\B'.length<=3 * (k+1))/\Hid (Below W.heap.size W w')):=fun W st' i hi av rv lo2 lo3 hp hI' ha hr=>by
  refine(yc2 W vv lv av rv B l.args fs[i].2.1 hI'.fst hI'.snd ha hr (by omega) (by have:=(har l hmem).1;omega) (hfa _ (uad hi) l hmem hp) (har l hmem).2).mono ?_
  rintro e w' ⟨n1,c1,o1,n2,c2,o2,q1,q2,q3⟩
  refine⟨n1,c1,o1,n2,c2,o2,q1,fun B' hB'=>?_,q3⟩
  obtain⟨r1,r2,r3⟩:=q2.out B' hB'
  exact⟨r1,r2,by have:=(har l hmem).1;omega⟩
 have HRES:Hid (yaa fs h body (l::rest) B last st=fs.foldl (ya9 fs h body rest l B last) st):=hrule
 generalize yaa fs h body (l::rest) B last st=res at *
 clear hcells hI har hfa hmem hrule
 have hlt0:=HLT.out w st HI.out
 have hg:=hlt0.1
 have c0:=hlt0.2.1
 have hkne:((k:Int) == (ls.length:Int))=false:=by simp;omega
 go_enter Tryz.func52,Tryz.ntmps52
 go_upto_region 14 with fail
 have HB0:Hid (Below w.heap.size w (w.alloc (.cells #[vv,lv] 111))):=(Below.refl _ _).alloc (uaa _) _
 have HBX:Hid (∀ W,zas [xb,hb] (w.alloc (.cells #[vv,lv] 111)) W->W.cell? ⟨w.heap.size,0,none⟩=some vv/\W.cell? ⟨w.heap.size,1,none⟩=some lv/\w.heap.size < W.heap.size):=fun W hs=>by
  have q:=(Box.new w #[vv,lv] 111).save hs (by simp;omega)
  exact⟨by rw[q.rules.1];rfl,by rw[q.rules.1];rfl,q.lt⟩
 have c0':=(HB0.out.cell (p:=⟨g,k * 3,none⟩) hg).trans c0
 have hg':=ual hg HB0.out.size
 have HIA:Hid (yac w0 (w.alloc (.cells #[vv,lv] 111)) lo g xb hb pv (.slice ao fs.length cap) vv lv ls fs B st):=HI.out.below HB0.out
 clear c0 hg hlt0
 generalize hwA:w.alloc (.cells #[vv,lv] 111)=wA at *
 clear hwA
 go_wp2
 clear c0' hg'
 go_loopw [15] (fun v15 wr=>∃ i:Nat,i<=fs.length/\v15=.int .i64 i/\Hid (yac w0 wr lo g xb hb pv (.slice ao fs.length cap) vv lv ls fs B ((fs.take i).foldl (ya9 fs h body rest l B last) st))/\Hid (zas [xb,hb] wA wr)) (fun v15 _=>fs.length - (intOf v15).toNat)
 case atStart=>exact⟨0,uaj _,rfl,HIA,zas.refl _ _⟩
 case round =>
  obtain⟨i,hi,rfl,HIi,HSi⟩:=hrel
  obtain⟨x1,hlx⟩:=HXC.out _ _ HIi.out
  by_cases hil:i < fs.length
  ·have hii:(i:Int) < (fs.length:Int):=by omega
   have HTF:Hid ((fs.take (i+1)).foldl (ya9 fs h body rest l B last) st=ya9 fs h body rest l B last ((fs.take i).foldl (ya9 fs h body rest l B last) st) fs[i]):=ybo _ _ _ hil
   obtain⟨sn,hsn⟩:∃ sn,(fs.take (i+1)).foldl (ya9 fs h body rest l B last) st=sn:=⟨_,rfl⟩
   rw[hsn] at HTF
   have HSN:Hid ((fs.take (i+1)).foldl (ya9 fs h body rest l B last) st=sn):=hsn
   clear hsn
   generalize (fs.take i).foldl (ya9 fs h body rest l B last) st=si at *
   obtain⟨gf,gi,lo',rfl,hgf,f0,f1,f2,hSf⟩:=HCF.out _ _ i hil HIi.out
   have hlt0:=HLT.out _ _ HIi.out
   have hg:=hlt0.1
   have c1:=hlt0.2.2.1
   clear hlt0
   by_cases he:fs[i].1=l.pred
   ·have heq:=zfm he
    have HTF2:Hid (sn=(match yab B l.args fs[i].2.1 with|none=>si|some B'=>yaa fs h body rest B' (max last fs[i].2.2) si)):=by
     rw[Hid,HTF.out,ya9,if_pos he]
    have HWI:Hid (∀ W av rv lo2 lo3,yac w0 W lo g xb hb pv (.slice (some ⟨gf,0,none⟩) fs.length cap) vv lv ls fs B si->SIn lo2 W av l.args->SIn lo3 W rv fs[i].2.1->Calls Tryz.prog 90 #[.agg #[vv,lv],av,rv] W fun e w'=>∃(n1 c1:Nat) (o1:Option Addr) (n2 c2:Nat) (o2:Option Addr),e=.returned (.tuple #[.agg #[.slice o1 n1 c1,.slice o2 n2 c2],.bool (yab B l.args fs[i].2.1).isSome])/\Hid (∀ B',yab B l.args fs[i].2.1=some B'->SIn W.heap.size w' (.slice o1 n1 c1) (yak B')/\SIn W.heap.size w' (.slice o2 n2 c2) (yan B')/\B'.length<=3 * (k+1))/\Hid (Below W.heap.size W w')):=fun W av rv lo2 lo3 q1 q2 q3=>HWITH.out W si i hil av rv lo2 lo3 he q1 q2 q3
    have HCI:Hid (∀ W,yac w0 W lo g xb hb pv (.slice (some ⟨gf,0,none⟩) fs.length cap) vv lv ls fs B si->∃ gi lo',gf < W.heap.size/\W.cell? ⟨gf,i * 3+1,none⟩=some (.slice (some ⟨gi,0,none⟩) fs[i].2.1.length fs[i].2.1.length)/\SIn lo' W (.slice (some ⟨gi,0,none⟩) fs[i].2.1.length fs[i].2.1.length) fs[i].2.1):=fun W q=>by
     obtain⟨gf',gi,lo',e,q1,_,q3,_,q5⟩:=HCF.out W si i hil q
     cases e
     exact⟨gi,lo',q1,q3,q5⟩
    have HCW:Hid (∀ W st',yac w0 W lo g xb hb pv (.slice (some ⟨gf,0,none⟩) fs.length cap) vv lv ls fs B st'->gf < W.heap.size/\W.cell? ⟨gf,i * 3+2,none⟩=some (.int .i64 (fs[i].2.2:Nat))):=fun W st' q=>by
     obtain⟨gf',gi,lo',e,q1,_,_,q4,_⟩:=HCF.out W st' i hil q
     cases e
     exact⟨q1,q4⟩
    clear HTF he f1 f2 hSf HCF HWITH
    generalize fs[i].1=x at *
    generalize fs[i].2.1.length=rl at *
    generalize fs[i].2.1=rw at *
    generalize fs[i].2.2=wn at *
    go_upto_region 19 with fail
    go_quiet (fail)
    have HIq:Hid (yac w0 (wr.drewN nq) lo g xb hb pv (.slice (some ⟨gf,0,none⟩) fs.length cap) vv lv ls fs B si):=HIi.out.below (zvv _ _)
    have HSq:Hid (zas [xb,hb] wA (wr.drewN nq)):=HSi.out.trans (zas.of (zvv _ _))
    clear x1 hlx hgf f0 hg c1 HIi HSi
    generalize wr.drewN nq=wq at *
    obtain⟨x1,hlx⟩:=HXC.out _ _ HIq.out
    have hlt0:=HLT.out _ _ HIq.out
    have hg:=hlt0.1
    obtain⟨ga,c2,hSa⟩:=hlt0.2.2.2
    clear hlt0
    obtain⟨gi,lo',hgf,f1,hSf⟩:=HCI.out _ HIq.out
    obtain⟨b0,b1,hlb⟩:=HBX.out _ HSq.out
    have HWC:Hid (∀ W,Below wq.heap.size wq W->Calls Tryz.prog 90 #[.agg #[vv,lv],.slice (some ⟨ga,0,none⟩) l.args.length l.args.length,.slice (some ⟨gi,0,none⟩) rl rl] W fun e w'=>∃(n1 c1:Nat) (o1:Option Addr) (n2 c2:Nat) (o2:Option Addr),e=.returned (.tuple #[.agg #[.slice o1 n1 c1,.slice o2 n2 c2],.bool (yab B l.args rw).isSome])/\Hid (∀ B',yab B l.args rw=some B'->SIn lo w' (.slice o1 n1 c1) (yak B')/\SIn lo w' (.slice o2 n2 c2) (yan B')/\B'.length<=3 * (k+1))/\Hid (Below wq.heap.size wq w')/\Hid (Below W.heap.size W w')/\w'.cell? ⟨g,k * 3+2,none⟩=some (.slice (some ⟨ga,0,none⟩) l.args.length l.args.length)/\w'.cell? ⟨w.heap.size,0,none⟩=some vv/\w'.cell? ⟨w.heap.size,1,none⟩=some lv/\w'.cell? ⟨xb,1,none⟩=some (.slice (some ⟨gf,0,none⟩) fs.length cap)/\w'.cell? ⟨gf,i * 3+1,none⟩=some (.slice (some ⟨gi,0,none⟩) rl rl)):=fun W hb=>by
     have hIW:=HIq.out.below hb
     refine(HWI.out W _ _ _ _ hIW (hSa.below hb) (hSf.below hb)).mono ?_
     rintro e w' ⟨n1,m1,o1,n2,m2,o2,q1,q2,q3⟩
     have hb3:=zae hb q3.out (uaa _)
     refine⟨n1,m1,o1,n2,m2,o2,q1,fun B' hB'=>?_,hb3,q3,(hb3.cell (p:=⟨g,k * 3+2,none⟩) hg).trans c2,(hb3.cell (p:=⟨w.heap.size,0,none⟩) hlb).trans b0,(hb3.cell (p:=⟨w.heap.size,1,none⟩) hlb).trans b1,(hb3.cell (p:=⟨xb,1,none⟩) hlx).trans x1,(hb3.cell (p:=⟨gf,i * 3+1,none⟩) hgf).trans f1⟩
     obtain⟨r1,r2,r3⟩:=q2.out B' hB'
     exact⟨zbf r1 hIW.low,zbf r2 hIW.low,r3⟩
    clear hSa hSf
    generalize l.args.length=al at *
    generalize yab B l.args rw=wo at *
    go_upto_region 20 with fail
    go_cut [16,17] from 129 to 145 (fun s16 s17 wx=>s17=.bool wo.isSome/\yc5 wq wx lo (3 * (k+1)) wo s16)
    case first =>
     go_region_held3 (fun w'=>w'.cell? ⟨g,k * 3+2,none⟩=some (.slice (some ⟨ga,0,none⟩) al al)/\w'.cell? ⟨w.heap.size,0,none⟩=some vv/\w'.cell? ⟨w.heap.size,1,none⟩=some lv/\w'.cell? ⟨xb,1,none⟩=some (.slice (some ⟨gf,0,none⟩) fs.length cap)/\w'.cell? ⟨gf,i * 3+1,none⟩=some (.slice (some ⟨gi,0,none⟩) rl rl)) (first|go_keep|(go_simp;done)) (first|(go_at_call 90;refine(HWC.out _ (by exact(by repeat'(first|with_reducible(first|exact zR _ _|assumption|refine zN ?_ _|refine zA ?_ ?_ _|refine zD ?_|refine zS ?_ ?_ _)|go_size)))).mono ?_;rintro e w5 ⟨n1,m1,o1,n2,m2,o2,rfl,HQ5,HB5,hb5,z0,z1,z2,z3,z4⟩;(try (with_reducible refine Box.carry (Box.drew (Box.new wq #[.slice none 0 0,.slice none 0 0] 111)) hb5.out ?_;intro hbz;obtain⟨hbzc,hbzf⟩:=hbz.rules;have hbzl:=hbz.lt))))
     all_goals
      go_wp2_with fail
      go_meet
      case rel=>first|exact⟨rfl,yc5.one HB5.out HQ5.out⟩|exact⟨rfl,yc5.two (uaa _) HB5.out hbz HQ5.out⟩
    case rest =>
     obtain⟨rfl,xq,n1,m1,o1,n2,m2,o2,rfl,HQ,HXQ,HBx⟩:=hcut
     have HIx:Hid (yac w0 wc lo g xb hb pv (.slice (some ⟨gf,0,none⟩) fs.length cap) vv lv ls fs B si):=HIq.out.below HBx.out
     have HSx:Hid (zas [xb,hb] wA wc):=HSq.out.trans (zas.of HBx.out)
     clear x1 hlx hg c2 hgf f1 b0 b1 hlb HWC HIq HSq HBx
     obtain⟨x1,hlx⟩:=HXC.out _ _ HIx.out
     cases wo with
     |none =>
      have HT:Hid (sn=si):=HTF2.out
      go_wp2
      go_roundw
      case rel=>exact⟨i+1,by omega,by go_num,by rw[HSN.out,HT.out];exact HIx.out,HSx⟩
      case measure=>simp[intOf];omega
     |some B' =>
      have HT:Hid (sn=yaa fs h body rest B' (max last wn) si):=HTF2.out
      simp only[ua4]
      obtain⟨s1,s2,s3⟩:=HQ.out B' rfl
      have HIB:Hid (yac w0 wc lo g xb hb pv (.slice (some ⟨gf,0,none⟩) fs.length cap) (.slice o1 n1 m1) (.slice o2 n2 m2) ls fs B' si):=⟨HIx.out.lits,s1,s2,HIx.out.der,HIx.out.facts,HIx.out.old,HIx.out.ox,HIx.out.oh,HIx.out.lx,HIx.out.lh,HIx.out.low,HIx.out.len⟩
      have q0:=HXQ.out.rules.1 0
      have q1:=HXQ.out.rules.1 1
      have hlq:=HXQ.out.lt
      obtain⟨hgf,f2⟩:=HCW.out _ _ HIx.out
      have HLE:Hid ((yaa fs h body rest B' (max last wn) si).1.length=si.1.length):=(yaq fs h body rest B' (max last wn) si).1
      have HRC:Hid (Calls Tryz.prog 52 #[.pointer (some ⟨xb,0,none⟩),.slice (some ⟨g,0,none⟩) ls.length ls.length,.int .i64 ((k:Int)+1),.agg #[.slice o1 n1 m1,.slice o2 n2 m2],.int .i64 (max last wn:Nat)] wc fun e w'=>e=.returned (.tuple #[])/\Hid (yam w' xb hb pv (.slice (some ⟨gf,0,none⟩) fs.length cap) (yaa fs h body rest B' (max last wn) si))/\Hid (zas [xb,hb] wc w')):=HREC.out wc _ _ B' (max last wn) si s3 HIB.out
      clear s1 s2 HQ
      generalize yaa fs h body rest B' (max last wn) si=sr at *
      by_cases hw:last < wn
      ·have hwi:(wn:Int) > (last:Int):=by omega
       rw[Nat.max_eq_right (by omega)] at HRC
       go_wp2_with (first|(go_at_call 52;refine HRC.out.mono ?_;rintro e w1 ⟨rfl,HD1,HS1⟩))
       go_roundw
       case rel=>exact⟨i+1,by omega,by go_num,by rw[HSN.out,HT.out];exact HIx.out.save HS1.out HD1.out HLE.out,HSx.out.trans HS1.out⟩
       case measure=>simp[intOf];omega
      ·have hwi:¬ (wn:Int) > (last:Int):=by omega
       rw[Nat.max_eq_left (by omega)] at HRC
       go_wp2_with (first|(go_at_call 52;refine HRC.out.mono ?_;rintro e w1 ⟨rfl,HD1,HS1⟩))
       go_roundw
       case rel=>exact⟨i+1,by omega,by go_num,by rw[HSN.out,HT.out];exact HIx.out.save HS1.out HD1.out HLE.out,HSx.out.trans HS1.out⟩
       case measure=>simp[intOf];omega
   ·have heq:=zei he
    have HTF2:Hid (sn=si):=by
     rw[Hid,HTF.out,ya9,if_neg he]
    clear HTF he f1 f2 hSf
    generalize fs[i].1=x at *
    generalize l.pred=y at *
    go_wp2
    go_quiet (fail)
    go_wp2
    go_roundw
    case rel=>exact⟨i+1,by omega,by go_num,by rw[HSN.out,HTF2.out];exact HIi.out.below (zvv _ _),HSi.out.trans (zas.of (zvv _ _))⟩
    case measure=>simp[intOf];omega
  ·have hii:¬ (i:Int) < (fs.length:Int):=by omega
   obtain rfl:i=fs.length:=by omega
   have HD:Hid (yam wr xb hb pv (.slice ao fs.length cap) res):=by
    have:=HIi.out.der
    rw[ubw] at this
    rw[Hid,HRES.out]
    exact this
   go_wp2
   go_end0
   exact⟨rfl,HD,(zas.of HB0.out).trans HSi.out⟩
theorem ybl(w0:World)(lo g xb hb:Nat)(pv fv:Value)(ls:List zbu)(h:zbu)(body:List zbu)(fs:List zg4)(hls:ls=h::body)(hl:ls.length<=30)(har:∀ l∈ls,l.args.length<=3/\∀ a∈l.args,0 < a.size)(hfl:fs.length<=300)(hfr:∀ f∈fs,f.2.1.length<=1000000)(hfa:∀ f∈fs,∀ l∈ls,f.1=l.pred->f.2.1.length=l.args.length):∀(rest:List zbu) (k:Nat) (w:World) (vv lv:Value) (B:z99) (last:Nat) (st:StW),1<=k->k<=ls.length->ls.drop k=rest->B.length<=3 * k->yac w0 w lo g xb hb pv fv vv lv ls fs B st →
  Calls Tryz.prog 52 #[.pointer (some ⟨xb,0,none⟩),.slice (some ⟨g,0,none⟩) ls.length ls.length,.int .i64 k,.agg #[vv,lv],.int .i64 last] w fun e w'=>e=.returned (.tuple #[])/\Hid (yam w' xb hb pv fv (yaa fs h body rest B last st))/\Hid (zas [xb,hb] w w')
 |[],k,w,vv,lv,B,last,st,hk1,hk,hd,hBl,hI=>by
  have hke:k=ls.length:=by
   have:=congrArg List.length hd
   simp at this
   omega
  subst hke
  exact yb9 w0 w lo g xb hb pv fv vv lv ls h body fs B last st hI hls hl (by omega) (fun l hl=>⟨by have:=(har l hl).1;omega,(har l hl).2⟩) hfl hfr
 |l::rest,k,w,vv,lv,B,last,st,hk1,hk,hd,hBl,hI=>by
  have hkl:k < ls.length:=by
   have:=congrArg List.length hd
   simp at this
   omega
  have hdc:=hd
  rw[uah hkl] at hdc
  have hlk:ls[k]=l:=(List.cons.inj hdc).1
  have hrest:ls.drop (k+1)=rest:=(List.cons.inj hdc).2
  have hmem:l∈ls:=hlk ▸ uad hkl
  have HREC:Hid (∀ W vv' lv' (B':z99) (last':Nat) (st':StW),B'.length<=3 * (k+1)->yac w0 W lo g xb hb pv fv vv' lv' ls fs B' st'->Calls Tryz.prog 52 #[.pointer (some ⟨xb,0,none⟩),.slice (some ⟨g,0,none⟩) ls.length ls.length,.int .i64 ((k:Int)+1),.agg #[vv',lv'],.int .i64 last'] W fun e w'=>e=.returned (.tuple #[])/\Hid (yam w' xb hb pv fv (yaa fs h body rest B' last' st'))/\Hid (zas [xb,hb] W w')):=fun W vv' lv' B' last' st' hB' hI'=>by
   have:=ybl w0 lo g xb hb pv fv ls h body fs hls hl har hfl hfr hfa rest (k+1) W vv' lv' B' last' st' (by omega) (by omega) hrest hB' hI'
   simpa using this
  cases hn:l.neg with
  |true=>exact ycj w0 lo g xb hb pv fv ls h body fs hl har hfl hfa l rest k w vv lv B last st hk1 hkl hlk hmem hBl hI HREC hn
  |false=>exact yck w0 lo g xb hb pv fv ls h body fs hl har hfl hfa l rest k w vv lv B last st hk1 hkl hlk hmem hBl hI HREC hn
end Go.Proofs.YteampbddflhngaaGreat
namespace Go.Proofs.YteampbddflhngaaGreat
open Go.RowKit
theorem yb5{s:ByteArray}{cs:List zab}{t:List zar}(h:znz s=.ok (cs,t)):∀ c∈cs,ya3 c:=by
 unfold znz at h
 split at h
 ·cases h
 ·split at h
  ·cases h
  ·rename_i l hl
   split at h
   ·cases h
   ·rename_i ds hd
    have hw:=ybg _ hd (ybx hl)
    have hcs:ds=cs:=by
     repeat'(split at h)
     all_goals first|(cases h;done)|(simp only[Except.ok.injEq,uak] at h;exact h.1)
    subst hcs
    exact hw
theorem ybr.sz{x:ByteArray}(h:ybr (bl x)):0 < x.size/\x.size<=6:=by
 have h1:=h.ne
 have h2:=h.six
 have e:(bl x).length=x.size:=rfl
 cases hb:bl x with
 |nil=>exact absurd hb h1
 |cons a r=>rw[hb] at e h2;simp only[ua7] at e h2;omega
theorem yaz.fine{l:zbu}(h:yaz l)(ha:l.args.length<=3):z7t l :=
 ⟨h.1.1.sz.2,h.1.1.sz.1,by omega,fun x hx=>h.2 x hx |>.sz⟩
theorem ya3.fine{c:zab}(h:ya3 c)(hm:zem c=false):z95 c:=by
 unfold zem at hm
 simp only[uc3,decide_eq_false_iff_not] at hm
 obtain⟨⟨⟨h1,h2⟩,h3⟩,_⟩:=hm
 refine⟨fun l hl=>?_,by omega⟩
 rcases uag.1 hl with rfl|hl
 ·exact h.2.1.fine (by omega)
 ·have:=List.any_eq_false.1 h3 l hl
  simp only[decide_eq_true_eq] at this
  exact(h.2.2 l hl).fine (by omega)
end Go.Proofs.YteampbddflhngaaGreat
