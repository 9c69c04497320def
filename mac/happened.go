package mac

import "bellbuoy/api"

// happened is what the bit that is there brings.
type happened struct {
	now api.Happen
}

func (h *happened) began() { h.now.Began = true }

func (h *happened) lost() { h.now.Lost = true }

func (h *happened) sent(f api.Frame) { h.now.Sent, h.now.Frame = true, f }

func (h *happened) got(f api.Frame) { h.now.Got, h.now.Frame = true, f }

func (h *happened) wrong(bad api.Bad) { h.now.Bad = bad }

// told is all of that; nothing is left of it for the bit that follows.
func (h *happened) told() api.Happen {
	now := h.now
	h.now = api.Happen{}
	return now
}
