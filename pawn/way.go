package pawn

import "ceroplast/api"

// How a figure has its gown, as in api.
const (
	own = iota
	redeemed
	borrowed
)

// way is what is known of how a gown can be had: whether it is pawned then, the greatest Day of a use, whether it is back in time, and what is paid.
type way struct {
	pawned  bool
	lastDay int
	inTime  func(g api.PaGown, f api.PaFigure, day int) bool
	pay     func(g api.PaGown, f api.PaFigure, day int) payment
}

// payment is pence that are paid on a day.
type payment struct{ on, pence int }

// ways returns how a gown can be had, in order.
func ways() [3]way {
	return [...]way{
		own:      {inTime: always, pay: nothing},
		redeemed: {pawned: true, lastDay: api.MaxDay, inTime: isRedeemable, pay: redemption},
		borrowed: {pawned: true, inTime: isLent, pay: hire},
	}
}

func always(api.PaGown, api.PaFigure, int) bool { return true }

func isRedeemable(g api.PaGown, f api.PaFigure, day int) bool { return day <= min(g.Last, f.Day) }

func isLent(g api.PaGown, f api.PaFigure, _ int) bool { return f.Until <= g.Last }

func nothing(api.PaGown, api.PaFigure, int) payment { return payment{} }

func redemption(g api.PaGown, _ api.PaFigure, day int) payment {
	return payment{day, redeemCost(g, day)}
}

func hire(g api.PaGown, f api.PaFigure, _ int) payment { return payment{f.Day, borrowCost(g, f)} }

func redeemCost(g api.PaGown, day int) int {
	months := (g.Ago+day)/api.PaMonth + 1
	return g.Loan + months*g.Rate
}

func borrowCost(g api.PaGown, f api.PaFigure) int { return g.Fee * (f.Until - f.Day + 1) }
